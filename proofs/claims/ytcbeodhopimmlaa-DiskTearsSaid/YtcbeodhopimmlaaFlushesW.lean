/-
  DiskFlushes.
-/
import Derived.Test.YtcbeodhopimmlaaPartsW
namespace Go.Proofs.Ytcbeodhopimmlaa
open Go.RowKit Dk

theorem cut_ok {d : D} (h : checkB d = true) (hd : d.down = false) : cutV d = (⟨d.secs, [], -1, true⟩, 0) := by unfold cutV; rw [if_pos (upE_zero.2 ⟨h, hd⟩)]
theorem st_ok {d : D} (h : checkB d = true) (hd : d.down = true) : stV d = (⟨d.secs, d.pend, d.left, false⟩, 0) := by unfold stV; rw [h, hd]; rfl

set_option maxHeartbeats 25600000 in
set_option maxRecDepth 100000 in
theorem flushes_x (ok : DiskOk) (sm : SmallOk) (v : Value) (d : D) (w : World) (h : DAt w v d) (hf : FitW d) :
    Calls Try.prog 5 #[v] w fun r w' => r = .returned (.bool true) ∧ Below w.heap.size w w' := by
  obtain ⟨qa, qc, qb, qe, rfl, -, -, -, -⟩ := h.form
  have Pd := Lib.hid (Vr.new (w := w) h (Nat.le_refl _) 25)
  have HF := Lib.hid hf
  have BP : Hid (Below w.heap.size w (w.alloc (.cells #[.slice qa d.secs.length qc, .slice qb d.pend.length qe, .int .i64 d.left, .bool d.down] 25))) := Below.new1 _
  have dl1 := hf.left.1
  have dl2 := hf.left.2
  clear h hf
  go_enter Try.func5, Try.ntmps5
  go_wp2_with fail
  refine (sm _).mono ?_
  rintro r w1 ⟨rfl, b1⟩
  have Vd := Lib.hid (Pd.out.next b1)
  have BW1 := Lib.hid (chain BP.out b1)
  clear Pd BP b1
  have Pd := Lib.hid Vd.out
  have BP := Lib.hid BW1.out
  clear Vd
  obtain ⟨ad, cd, bd, ed, hBd, hDd⟩ := Pd.out.ex
  have xd0 := hBd.c0
  have xd1 := hBd.c1
  have xd2 := hBd.c2
  have xd3 := hBd.c3
  have xdl := hBd.lt
  have HDd := Lib.hid hDd
  clear hBd hDd
  go_wp2_with fail
  refine (right_x _ d _ HDd.out HF.out).mono ?_
  rintro r w2 ⟨rfl, b2⟩
  obtain ⟨okd, hok⟩ : ∃ x, okB d = x := ⟨_, rfl⟩
  rw [hok]
  have HOK := Lib.hid hok
  clear hok
  clear xd0 xd1 xd2 xd3 xdl HDd
  have Z2 : Hid (w1.heap.size ≤ w2.heap.size) := b2.size
  have Vd := Lib.hid (Pd.out.next b2)
  have BW2 : Hid (Below w.heap.size w w2) := chain BP.out b2
  clear BP
  clear Pd
  have NE_0_2 : Hid (w.heap.size < w2.heap.size) := Nat.lt_of_lt_of_le (Vd.out.lt) (Nat.le_refl _)
  clear b2
  have Pd := Lib.hid Vd.out
  have BP := Lib.hid BW2.out
  clear Vd
  obtain ⟨ad, cd, bd, ed, hBd, hDd⟩ := Pd.out.ex
  have xd0 := hBd.c0
  have xd1 := hBd.c1
  have xd2 := hBd.c2
  have xd3 := hBd.c3
  have xdl := hBd.lt
  have HDd := Lib.hid hDd
  clear hBd hDd
  cases okd with
  | false =>
    go_wp2_with fail
    go_ret
    exact ⟨rfl, BP.out⟩
  | true =>
    obtain ⟨⟨hs1, hs2⟩, hck, hdn⟩ := ok_iff.1 HOK.out
    obtain ⟨⟨c1, c2, c3, c4, c5⟩, hsz, hpd, -⟩ := check_iff.1 hck
    by_cases t0 : 0 ≤ d.left ∧ d.left < (d.pend.length : Int)
    case pos =>
      have t1 := t0.1
      have t2 := t0.2
      go_wp2_with fail
      go_ret
      exact ⟨rfl, BP.out⟩
    case neg =>
      obtain ⟨l, hl⟩ : ∃ x, view d = x := ⟨_, rfl⟩
      obtain ⟨nl, hnl⟩ : ∃ x : Int, x = (if 0 ≤ d.left then d.left - d.pend.length else -1) := ⟨_, rfl⟩
      obtain ⟨d2, hd2⟩ : ∃ x : D, x = ⟨perf d.secs d.pend, [], nl, false⟩ := ⟨_, rfl⟩
      obtain ⟨d3, hd3⟩ : ∃ x : D, x = ⟨perf d.secs d.pend, [], -1, true⟩ := ⟨_, rfl⟩
      obtain ⟨d4, hd4⟩ : ∃ x : D, x = ⟨perf d.secs d.pend, [], -1, false⟩ := ⟨_, rfl⟩
      obtain ⟨d5, hd5⟩ : ∃ x : D, x = ⟨d.secs, [], -1, true⟩ := ⟨_, rfl⟩
      obtain ⟨d6, hd6⟩ : ∃ x : D, x = ⟨d.secs, [], -1, false⟩ := ⟨_, rfl⟩
      have E1 : Hid (flV d = (d2, 0)) := by show _ = _; rw [fl_ok hck hdn t0, hd2, hnl]; rfl
      have g2 : checkB d2 = true := by have hz := check_flush hck t0; rw [hd2, hnl]; exact hz
      have n2 : d2.down = false := by rw [hd2]
      have s2 : d2.secs = perf d.secs d.pend := by rw [hd2]
      have p2 : d2.pend.length = 0 := by rw [hd2]; rfl
      have m2 : d2.left = nl := by rw [hd2]
      have E2 : Hid (cutV d2 = (d3, 0)) := by show _ = _; rw [cut_ok g2 n2, s2, hd3]
      have g3 : checkB d3 = true := by have hz := check_cut g2; rw [s2] at hz; rw [hd3]; exact hz
      have E3 : Hid (stV d3 = (d4, 0)) := by show _ = _; rw [st_ok g3 (by rw [hd3]), hd3, hd4]
      have g4 : checkB d4 = true := by have hz := check_start g3; rw [hd3] at hz; rw [hd4]; exact hz
      have E4 : Hid (cutV d = (d5, 0)) := by show _ = _; rw [cut_ok hck hdn, hd5]
      have g5 : checkB d5 = true := by rw [hd5]; exact check_cut hck
      have E5 : Hid (stV d5 = (d6, 0)) := by show _ = _; rw [st_ok g5 (by rw [hd5]), hd5, hd6]
      have g6 : checkB d6 = true := by have hz := check_start g5; rw [hd5] at hz; rw [hd6]; exact hz
      have vl2 : Hid (view d2 = l) := by show _ = _; rw [← hl, hd2]; rfl
      have vl4 : Hid (view d4 = l) := by show _ = _; rw [← hl, hd4]; rfl
      have vl6 : Hid (view d6 = d.secs) := by show _ = _; rw [hd6]; rfl
      have VL : Hid (view d = l) := hl
      have lll : l.length ≤ 1099511627776 := by rw [← hl]; unfold view; rw [perf_len]; omega
      have lls : d.secs.length ≤ 1099511627776 := by omega
      have FD := Lib.hid (fit_right hck)
      have FD2 := Lib.hid (fit_right g2)
      have FD3 := Lib.hid (fit_right g3)
      have FD5 := Lib.hid (fit_right g5)
      have CK := Lib.hid hck
      have DN := Lib.hid hdn
      have CK2 := Lib.hid g2
      have DN2 := Lib.hid n2
      have CK4 := Lib.hid g4
      have DN4 : Hid (d4.down = false) := by show _ = _; rw [hd4]
      have CK6 := Lib.hid g6
      have DN6 : Hid (d6.down = false) := by show _ = _; rw [hd6]
      have hc2 : chk d2 = 0 := chk_yes g2
      have HNL : Hid (d2.left = nl) := m2
      have PE : Hid (d2.pend.length = 0) := p2
      have HNL2 := Lib.hid hnl
      clear hl hd2 hd3 hd4 hd5 hd6 g2 n2 s2 p2 m2 g3 g4 g5 g6 hck hdn hsz hpd hnl
      clear xd0 xd1 xd2 xd3 xdl HDd
      by_cases u : 0 ≤ d.left
      case pos =>
        have u1 : (d.left == -1) = false := by simp; omega
        have u2 : ¬ d.left < (d.pend.length : Int) := by omega
        have u3 : (d2.left != d.left - (d.pend.length : Int)) = false := by rw [HNL.out, HNL2.out, if_pos u]; simp
        obtain ⟨ad, cd, bd, ed, hBd, hDd⟩ := Pd.out.ex
        have xd0 := hBd.c0
        have xd1 := hBd.c1
        have xd2 := hBd.c2
        have xd3 := hBd.c3
        have xdl := hBd.lt
        have HDd := Lib.hid hDd
        clear hBd hDd
        have HC := Lib.hid (conv_v (contents_x ok _ d _ HDd.out CK.out DN.out) VL.out)
        go_wp2_with fail
        refine HC.out.mono ?_
        rintro r w3 ⟨ur, tr, rfl, h3, b3⟩
        clear HC
        clear xd0 xd1 xd2 xd3 xdl HDd
        have Z3 : Hid (w2.heap.size ≤ w3.heap.size) := b3.size
        have Vd := Lib.hid (Pd.out.next b3)
        have BW3 : Hid (Below w.heap.size w w3) := chain BP.out b3
        clear BP
        clear Pd
        have NE_0_3 : Hid (w.heap.size < w3.heap.size) := Nat.lt_of_lt_of_le (Vd.out.lt) (Nat.le_refl _)
        have Wr := Lib.hid h3
        clear h3 b3
        have Qr := Lib.hid Wr.out
        clear Wr
        have Pd := Lib.hid Vd.out
        have BP := Lib.hid BW3.out
        clear Vd
        obtain ⟨ad, cd, bd, ed, hBd, hDd⟩ := Pd.out.ex
        have xd0 := hBd.c0
        have xd1 := hBd.c1
        have xd2 := hBd.c2
        have xd3 := hBd.c3
        have xdl := hBd.lt
        have HDd := Lib.hid hDd
        clear hBd hDd
        have HC := Lib.hid (conv_d (ok.flush _ d  _ HDd.out FD.out) E1.out)
        go_wp2_with fail
        refine HC.out.mono ?_
        rintro r w4 ⟨sa4, sc4, pa4, pc4, rfl, h4, b4⟩
        clear HC
        clear xd0 xd1 xd2 xd3 xdl HDd
        have Z4 : Hid (w3.heap.size ≤ w4.heap.size) := b4.size
        have Wr := Lib.hid (Qr.out.next (b4))
        clear Qr
        have Vd := Lib.hid (Pd.out.next b4)
        have BW4 : Hid (Below w.heap.size w w4) := chain BP.out b4
        clear BP
        clear Pd
        have NE_0_4 : Hid (w.heap.size < w4.heap.size) := Nat.lt_of_lt_of_le (Vd.out.lt) (Nat.le_refl _)
        have H4 := Lib.hid h4
        clear h4 b4
        have Pd := Lib.hid (Vd.out.next (Below.new1 (.cells #[(.slice sa4 (d2).secs.length sc4), (.slice pa4 (d2).pend.length pc4), .int .i64 d2.left, .bool d2.down] 25)))
        have Px := Lib.hid (Vr.new (w := w) H4.out BW4.out.size 25)
        have BP : Hid (Below w.heap.size w (w4.alloc (.cells #[(.slice sa4 (d2).secs.length sc4), (.slice pa4 (d2).pend.length pc4), .int .i64 d2.left, .bool d2.down] 25))) := chain BW4.out (Below.new1 _)
        have zs4 : (w4.alloc (.cells #[(.slice sa4 (d2).secs.length sc4), (.slice pa4 (d2).pend.length pc4), .int .i64 d2.left, .bool d2.down] 25)).heap.size = w4.heap.size + 1 := by simp
        have ZS4 := Lib.hid zs4
        clear zs4
        have Qr := Lib.hid (Wr.out.next (Below.new1 (.cells #[(.slice sa4 (d2).secs.length sc4), (.slice pa4 (d2).pend.length pc4), .int .i64 d2.left, .bool d2.down] 25)))
        clear Wr
        clear Vd
        obtain ⟨ax, cx, bx, ex, hBx, hDx⟩ := Px.out.ex
        have xx0 := hBx.c0
        have xx1 := hBx.c1
        have xx2 := hBx.c2
        have xx3 := hBx.c3
        have xxl := hBx.lt
        have HDx := Lib.hid hDx
        clear hBx hDx
        have HC := Lib.hid (conv_v (contents_x ok _ d2 _ HDx.out CK2.out DN2.out) vl2.out)
        go_wp2_with fail
        refine HC.out.mono ?_
        rintro r w5 ⟨us, ts, rfl, h5, b5⟩
        clear HC
        clear xx0 xx1 xx2 xx3 xxl HDx
        have Z5 : Hid ((w4.alloc (.cells #[(.slice sa4 (d2).secs.length sc4), (.slice pa4 (d2).pend.length pc4), .int .i64 d2.left, .bool d2.down] 25)).heap.size ≤ w5.heap.size) := b5.size
        have Wr := Lib.hid (Qr.out.next (b5))
        clear Qr
        have Vd := Lib.hid (Pd.out.next b5)
        have Vx := Lib.hid (Px.out.next b5)
        have BW5 : Hid (Below w.heap.size w w5) := chain BP.out b5
        clear BP
        clear Pd Px
        have NE_0_5 : Hid (w.heap.size < w5.heap.size) := Nat.lt_of_lt_of_le (Vd.out.lt) (Nat.le_refl _)
        have NE_4_5 : Hid (w4.heap.size < w5.heap.size) := Nat.lt_of_lt_of_le (Vx.out.lt) (Nat.le_refl _)
        have Ws := Lib.hid h5
        clear h5 b5
        have Qr := Lib.hid Wr.out
        have Qs := Lib.hid Ws.out
        clear Wr Ws
        have Pd := Lib.hid Vd.out
        have Px := Lib.hid Vx.out
        have BP := Lib.hid BW5.out
        clear Vd Vx
        obtain ⟨ad, cd, bd, ed, hBd, hDd⟩ := Pd.out.ex
        have xd0 := hBd.c0
        have xd1 := hBd.c1
        have xd2 := hBd.c2
        have xd3 := hBd.c3
        have xdl := hBd.lt
        have HDd := Lib.hid hDd
        clear hBd hDd
        obtain ⟨ax, cx, bx, ex, hBx, hDx⟩ := Px.out.ex
        rw [PE.out] at hBx hDx
        have xx0 := hBx.c0
        have xx1 := hBx.c1
        have xx2 := hBx.c2
        have xx3 := hBx.c3
        have xxl := hBx.lt
        have HDx := Lib.hid hDx
        clear hBx hDx
        go_wp2_with fail
        refine (same_x _ _ l _ Qr.out Qs.out lll).mono ?_
        rintro r w6 ⟨rfl, b6⟩
        clear xd0 xd1 xd2 xd3 xdl HDd
        clear xx0 xx1 xx2 xx3 xxl HDx
        have Z6 : Hid (w5.heap.size ≤ w6.heap.size) := b6.size
        have Wr := Lib.hid (Qr.out.next (b6))
        have Ws := Lib.hid (Qs.out.next (b6))
        clear Qr Qs
        have Vd := Lib.hid (Pd.out.next b6)
        have Vx := Lib.hid (Px.out.next b6)
        have BW6 : Hid (Below w.heap.size w w6) := chain BP.out b6
        clear BP
        clear Pd Px
        have NE_0_6 : Hid (w.heap.size < w6.heap.size) := Nat.lt_of_lt_of_le (Vd.out.lt) (Nat.le_refl _)
        have NE_4_6 : Hid (w4.heap.size < w6.heap.size) := Nat.lt_of_lt_of_le (Vx.out.lt) (Nat.le_refl _)
        clear b6
        have Qr := Lib.hid Wr.out
        have Qs := Lib.hid Ws.out
        clear Wr Ws
        have Pd := Lib.hid Vd.out
        have Px := Lib.hid Vx.out
        have BP := Lib.hid BW6.out
        clear Vd Vx
        obtain ⟨ad, cd, bd, ed, hBd, hDd⟩ := Pd.out.ex
        have xd0 := hBd.c0
        have xd1 := hBd.c1
        have xd2 := hBd.c2
        have xd3 := hBd.c3
        have xdl := hBd.lt
        have HDd := Lib.hid hDd
        clear hBd hDd
        obtain ⟨ax, cx, bx, ex, hBx, hDx⟩ := Px.out.ex
        rw [PE.out] at hBx hDx
        have xx0 := hBx.c0
        have xx1 := hBx.c1
        have xx2 := hBx.c2
        have xx3 := hBx.c3
        have xxl := hBx.lt
        have HDx := Lib.hid hDx
        clear hBx hDx
        go_wp2_with fail
        refine (ok.check _ d2 _ HDx.out FD2.out).mono ?_
        rintro r w7 ⟨rfl, b7⟩
        rw [hc2]
        clear xd0 xd1 xd2 xd3 xdl HDd
        clear xx0 xx1 xx2 xx3 xxl HDx
        have Z7 : Hid (w6.heap.size ≤ w7.heap.size) := b7.size
        have Wr := Lib.hid (Qr.out.next (b7))
        have Ws := Lib.hid (Qs.out.next (b7))
        clear Qr Qs
        have Vd := Lib.hid (Pd.out.next b7)
        have Vx := Lib.hid (Px.out.next b7)
        have BW7 : Hid (Below w.heap.size w w7) := chain BP.out b7
        clear BP
        clear Pd Px
        have NE_0_7 : Hid (w.heap.size < w7.heap.size) := Nat.lt_of_lt_of_le (Vd.out.lt) (Nat.le_refl _)
        have NE_4_7 : Hid (w4.heap.size < w7.heap.size) := Nat.lt_of_lt_of_le (Vx.out.lt) (Nat.le_refl _)
        clear b7
        have Qr := Lib.hid Wr.out
        have Qs := Lib.hid Ws.out
        clear Wr Ws
        have Pd := Lib.hid Vd.out
        have Px := Lib.hid Vx.out
        have BP := Lib.hid BW7.out
        clear Vd Vx
        obtain ⟨ax, cx, bx, ex, hBx, hDx⟩ := Px.out.ex
        rw [PE.out] at hBx hDx
        have xx0 := hBx.c0
        have xx1 := hBx.c1
        have xx2 := hBx.c2
        have xx3 := hBx.c3
        have xxl := hBx.lt
        have HDx := Lib.hid hDx
        clear hBx hDx
        obtain ⟨ad, cd, bd, ed, hBd, hDd⟩ := Pd.out.ex
        have xd0 := hBd.c0
        have xd1 := hBd.c1
        have xd2 := hBd.c2
        have xd3 := hBd.c3
        have xdl := hBd.lt
        have HDd := Lib.hid hDd
        clear hBd hDd
        have HC := Lib.hid (conv_d (ok.cut _ d2  _ HDx.out FD2.out) E2.out)
        go_wp2_with fail
        refine HC.out.mono ?_
        rintro r w8 ⟨sa8, sc8, pa8, pc8, rfl, h8, b8⟩
        clear HC
        clear xx0 xx1 xx2 xx3 xxl HDx
        clear xd0 xd1 xd2 xd3 xdl HDd
        have Z8 : Hid (w7.heap.size ≤ w8.heap.size) := b8.size
        have Wr := Lib.hid (Qr.out.next (b8))
        have Ws := Lib.hid (Qs.out.next (b8))
        clear Qr Qs
        have Vd := Lib.hid (Pd.out.next b8)
        have Vx := Lib.hid (Px.out.next b8)
        have BW8 : Hid (Below w.heap.size w w8) := chain BP.out b8
        clear BP
        clear Pd Px
        have NE_0_8 : Hid (w.heap.size < w8.heap.size) := Nat.lt_of_lt_of_le (Vd.out.lt) (Nat.le_refl _)
        have NE_4_8 : Hid (w4.heap.size < w8.heap.size) := Nat.lt_of_lt_of_le (Vx.out.lt) (Nat.le_refl _)
        have H8 := Lib.hid h8
        clear h8 b8
        have Pd := Lib.hid (Vd.out.next (Below.new1 (.cells #[(.slice sa8 (d3).secs.length sc8), (.slice pa8 (d3).pend.length pc8), .int .i64 d3.left, .bool d3.down] 25)))
        have Px := Lib.hid (Vx.out.next (Below.new1 (.cells #[(.slice sa8 (d3).secs.length sc8), (.slice pa8 (d3).pend.length pc8), .int .i64 d3.left, .bool d3.down] 25)))
        have Pp := Lib.hid (Vr.new (w := w) H8.out BW8.out.size 25)
        have BP : Hid (Below w.heap.size w (w8.alloc (.cells #[(.slice sa8 (d3).secs.length sc8), (.slice pa8 (d3).pend.length pc8), .int .i64 d3.left, .bool d3.down] 25))) := chain BW8.out (Below.new1 _)
        have zs8 : (w8.alloc (.cells #[(.slice sa8 (d3).secs.length sc8), (.slice pa8 (d3).pend.length pc8), .int .i64 d3.left, .bool d3.down] 25)).heap.size = w8.heap.size + 1 := by simp
        have ZS8 := Lib.hid zs8
        clear zs8
        have Qr := Lib.hid (Wr.out.next (Below.new1 (.cells #[(.slice sa8 (d3).secs.length sc8), (.slice pa8 (d3).pend.length pc8), .int .i64 d3.left, .bool d3.down] 25)))
        have Qs := Lib.hid (Ws.out.next (Below.new1 (.cells #[(.slice sa8 (d3).secs.length sc8), (.slice pa8 (d3).pend.length pc8), .int .i64 d3.left, .bool d3.down] 25)))
        clear Wr Ws
        clear Vd Vx
        obtain ⟨ap, cp, bp, ep, hBp, hDp⟩ := Pp.out.ex
        have xp0 := hBp.c0
        have xp1 := hBp.c1
        have xp2 := hBp.c2
        have xp3 := hBp.c3
        have xpl := hBp.lt
        have HDp := Lib.hid hDp
        clear hBp hDp
        have HC := Lib.hid (conv_d (ok.start _ d3  _ HDp.out FD3.out) E3.out)
        go_wp2_with fail
        refine HC.out.mono ?_
        rintro r w9 ⟨sa9, sc9, pa9, pc9, rfl, h9, b9⟩
        clear HC
        clear xp0 xp1 xp2 xp3 xpl HDp
        have Z9 : Hid ((w8.alloc (.cells #[(.slice sa8 (d3).secs.length sc8), (.slice pa8 (d3).pend.length pc8), .int .i64 d3.left, .bool d3.down] 25)).heap.size ≤ w9.heap.size) := b9.size
        have Wr := Lib.hid (Qr.out.next (b9))
        have Ws := Lib.hid (Qs.out.next (b9))
        clear Qr Qs
        have Vd := Lib.hid (Pd.out.next b9)
        have Vx := Lib.hid (Px.out.next b9)
        have Vp := Lib.hid (Pp.out.next b9)
        have BW9 : Hid (Below w.heap.size w w9) := chain BP.out b9
        clear BP
        clear Pd Px Pp
        have NE_0_9 : Hid (w.heap.size < w9.heap.size) := Nat.lt_of_lt_of_le (Vd.out.lt) (Nat.le_refl _)
        have NE_4_9 : Hid (w4.heap.size < w9.heap.size) := Nat.lt_of_lt_of_le (Vx.out.lt) (Nat.le_refl _)
        have NE_8_9 : Hid (w8.heap.size < w9.heap.size) := Nat.lt_of_lt_of_le (Vp.out.lt) (Nat.le_refl _)
        have H9 := Lib.hid h9
        clear h9 b9
        have Pd := Lib.hid (Vd.out.next (Below.new1 (.cells #[(.slice sa9 (d4).secs.length sc9), (.slice pa9 (d4).pend.length pc9), .int .i64 d4.left, .bool d4.down] 25)))
        have Px := Lib.hid (Vx.out.next (Below.new1 (.cells #[(.slice sa9 (d4).secs.length sc9), (.slice pa9 (d4).pend.length pc9), .int .i64 d4.left, .bool d4.down] 25)))
        have Pp := Lib.hid (Vp.out.next (Below.new1 (.cells #[(.slice sa9 (d4).secs.length sc9), (.slice pa9 (d4).pend.length pc9), .int .i64 d4.left, .bool d4.down] 25)))
        have Pz := Lib.hid (Vr.new (w := w) H9.out BW9.out.size 25)
        have BP : Hid (Below w.heap.size w (w9.alloc (.cells #[(.slice sa9 (d4).secs.length sc9), (.slice pa9 (d4).pend.length pc9), .int .i64 d4.left, .bool d4.down] 25))) := chain BW9.out (Below.new1 _)
        have zs9 : (w9.alloc (.cells #[(.slice sa9 (d4).secs.length sc9), (.slice pa9 (d4).pend.length pc9), .int .i64 d4.left, .bool d4.down] 25)).heap.size = w9.heap.size + 1 := by simp
        have ZS9 := Lib.hid zs9
        clear zs9
        have Qr := Lib.hid (Wr.out.next (Below.new1 (.cells #[(.slice sa9 (d4).secs.length sc9), (.slice pa9 (d4).pend.length pc9), .int .i64 d4.left, .bool d4.down] 25)))
        have Qs := Lib.hid (Ws.out.next (Below.new1 (.cells #[(.slice sa9 (d4).secs.length sc9), (.slice pa9 (d4).pend.length pc9), .int .i64 d4.left, .bool d4.down] 25)))
        clear Wr Ws
        clear Vd Vx Vp
        obtain ⟨az, cz, bz, ez, hBz, hDz⟩ := Pz.out.ex
        have xz0 := hBz.c0
        have xz1 := hBz.c1
        have xz2 := hBz.c2
        have xz3 := hBz.c3
        have xzl := hBz.lt
        have HDz := Lib.hid hDz
        clear hBz hDz
        have HC := Lib.hid (conv_v (contents_x ok _ d4 _ HDz.out CK4.out DN4.out) vl4.out)
        go_wp2_with fail
        refine HC.out.mono ?_
        rintro r w10 ⟨ut, tt, rfl, h10, b10⟩
        clear HC
        clear xz0 xz1 xz2 xz3 xzl HDz
        have Z10 : Hid ((w9.alloc (.cells #[(.slice sa9 (d4).secs.length sc9), (.slice pa9 (d4).pend.length pc9), .int .i64 d4.left, .bool d4.down] 25)).heap.size ≤ w10.heap.size) := b10.size
        have Wr := Lib.hid (Qr.out.next (b10))
        have Ws := Lib.hid (Qs.out.next (b10))
        clear Qr Qs
        have Vd := Lib.hid (Pd.out.next b10)
        have Vx := Lib.hid (Px.out.next b10)
        have Vp := Lib.hid (Pp.out.next b10)
        have Vz := Lib.hid (Pz.out.next b10)
        have BW10 : Hid (Below w.heap.size w w10) := chain BP.out b10
        clear BP
        clear Pd Px Pp Pz
        have NE_0_10 : Hid (w.heap.size < w10.heap.size) := Nat.lt_of_lt_of_le (Vd.out.lt) (Nat.le_refl _)
        have NE_4_10 : Hid (w4.heap.size < w10.heap.size) := Nat.lt_of_lt_of_le (Vx.out.lt) (Nat.le_refl _)
        have NE_8_10 : Hid (w8.heap.size < w10.heap.size) := Nat.lt_of_lt_of_le (Vp.out.lt) (Nat.le_refl _)
        have NE_9_10 : Hid (w9.heap.size < w10.heap.size) := Nat.lt_of_lt_of_le (Vz.out.lt) (Nat.le_refl _)
        have Wt := Lib.hid h10
        clear h10 b10
        have Qr := Lib.hid Wr.out
        have Qs := Lib.hid Ws.out
        have Qt := Lib.hid Wt.out
        clear Wr Ws Wt
        have Pd := Lib.hid Vd.out
        have Px := Lib.hid Vx.out
        have Pp := Lib.hid Vp.out
        have Pz := Lib.hid Vz.out
        have BP := Lib.hid BW10.out
        clear Vd Vx Vp Vz
        obtain ⟨ad, cd, bd, ed, hBd, hDd⟩ := Pd.out.ex
        have xd0 := hBd.c0
        have xd1 := hBd.c1
        have xd2 := hBd.c2
        have xd3 := hBd.c3
        have xdl := hBd.lt
        have HDd := Lib.hid hDd
        clear hBd hDd
        have HC := Lib.hid (conv_d (ok.cut _ d  _ HDd.out FD.out) E4.out)
        go_wp2_with fail
        refine HC.out.mono ?_
        rintro r w11 ⟨sa11, sc11, pa11, pc11, rfl, h11, b11⟩
        clear HC
        clear xd0 xd1 xd2 xd3 xdl HDd
        have Z11 : Hid (w10.heap.size ≤ w11.heap.size) := b11.size
        have Wr := Lib.hid (Qr.out.next (b11))
        have Ws := Lib.hid (Qs.out.next (b11))
        have Wt := Lib.hid (Qt.out.next (b11))
        clear Qr Qs Qt
        have Vd := Lib.hid (Pd.out.next b11)
        have Vx := Lib.hid (Px.out.next b11)
        have Vp := Lib.hid (Pp.out.next b11)
        have Vz := Lib.hid (Pz.out.next b11)
        have BW11 : Hid (Below w.heap.size w w11) := chain BP.out b11
        clear BP
        clear Pd Px Pp Pz
        have NE_0_11 : Hid (w.heap.size < w11.heap.size) := Nat.lt_of_lt_of_le (Vd.out.lt) (Nat.le_refl _)
        have NE_4_11 : Hid (w4.heap.size < w11.heap.size) := Nat.lt_of_lt_of_le (Vx.out.lt) (Nat.le_refl _)
        have NE_8_11 : Hid (w8.heap.size < w11.heap.size) := Nat.lt_of_lt_of_le (Vp.out.lt) (Nat.le_refl _)
        have NE_9_11 : Hid (w9.heap.size < w11.heap.size) := Nat.lt_of_lt_of_le (Vz.out.lt) (Nat.le_refl _)
        have H11 := Lib.hid h11
        clear h11 b11
        have Pd := Lib.hid (Vd.out.next (Below.new1 (.cells #[(.slice sa11 (d5).secs.length sc11), (.slice pa11 (d5).pend.length pc11), .int .i64 d5.left, .bool d5.down] 25)))
        have Px := Lib.hid (Vx.out.next (Below.new1 (.cells #[(.slice sa11 (d5).secs.length sc11), (.slice pa11 (d5).pend.length pc11), .int .i64 d5.left, .bool d5.down] 25)))
        have Pp := Lib.hid (Vp.out.next (Below.new1 (.cells #[(.slice sa11 (d5).secs.length sc11), (.slice pa11 (d5).pend.length pc11), .int .i64 d5.left, .bool d5.down] 25)))
        have Pz := Lib.hid (Vz.out.next (Below.new1 (.cells #[(.slice sa11 (d5).secs.length sc11), (.slice pa11 (d5).pend.length pc11), .int .i64 d5.left, .bool d5.down] 25)))
        have Pf := Lib.hid (Vr.new (w := w) H11.out BW11.out.size 25)
        have BP : Hid (Below w.heap.size w (w11.alloc (.cells #[(.slice sa11 (d5).secs.length sc11), (.slice pa11 (d5).pend.length pc11), .int .i64 d5.left, .bool d5.down] 25))) := chain BW11.out (Below.new1 _)
        have zs11 : (w11.alloc (.cells #[(.slice sa11 (d5).secs.length sc11), (.slice pa11 (d5).pend.length pc11), .int .i64 d5.left, .bool d5.down] 25)).heap.size = w11.heap.size + 1 := by simp
        have ZS11 := Lib.hid zs11
        clear zs11
        have Qr := Lib.hid (Wr.out.next (Below.new1 (.cells #[(.slice sa11 (d5).secs.length sc11), (.slice pa11 (d5).pend.length pc11), .int .i64 d5.left, .bool d5.down] 25)))
        have Qs := Lib.hid (Ws.out.next (Below.new1 (.cells #[(.slice sa11 (d5).secs.length sc11), (.slice pa11 (d5).pend.length pc11), .int .i64 d5.left, .bool d5.down] 25)))
        have Qt := Lib.hid (Wt.out.next (Below.new1 (.cells #[(.slice sa11 (d5).secs.length sc11), (.slice pa11 (d5).pend.length pc11), .int .i64 d5.left, .bool d5.down] 25)))
        clear Wr Ws Wt
        clear Vd Vx Vp Vz
        obtain ⟨af, cf, bf, ef, hBf, hDf⟩ := Pf.out.ex
        have xf0 := hBf.c0
        have xf1 := hBf.c1
        have xf2 := hBf.c2
        have xf3 := hBf.c3
        have xfl := hBf.lt
        have HDf := Lib.hid hDf
        clear hBf hDf
        have HC := Lib.hid (conv_d (ok.start _ d5  _ HDf.out FD5.out) E5.out)
        go_wp2_with fail
        refine HC.out.mono ?_
        rintro r w12 ⟨sa12, sc12, pa12, pc12, rfl, h12, b12⟩
        clear HC
        clear xf0 xf1 xf2 xf3 xfl HDf
        have Z12 : Hid ((w11.alloc (.cells #[(.slice sa11 (d5).secs.length sc11), (.slice pa11 (d5).pend.length pc11), .int .i64 d5.left, .bool d5.down] 25)).heap.size ≤ w12.heap.size) := b12.size
        have Wr := Lib.hid (Qr.out.next (b12))
        have Ws := Lib.hid (Qs.out.next (b12))
        have Wt := Lib.hid (Qt.out.next (b12))
        clear Qr Qs Qt
        have Vd := Lib.hid (Pd.out.next b12)
        have Vx := Lib.hid (Px.out.next b12)
        have Vp := Lib.hid (Pp.out.next b12)
        have Vz := Lib.hid (Pz.out.next b12)
        have Vf := Lib.hid (Pf.out.next b12)
        have BW12 : Hid (Below w.heap.size w w12) := chain BP.out b12
        clear BP
        clear Pd Px Pp Pz Pf
        have NE_0_12 : Hid (w.heap.size < w12.heap.size) := Nat.lt_of_lt_of_le (Vd.out.lt) (Nat.le_refl _)
        have NE_4_12 : Hid (w4.heap.size < w12.heap.size) := Nat.lt_of_lt_of_le (Vx.out.lt) (Nat.le_refl _)
        have NE_8_12 : Hid (w8.heap.size < w12.heap.size) := Nat.lt_of_lt_of_le (Vp.out.lt) (Nat.le_refl _)
        have NE_9_12 : Hid (w9.heap.size < w12.heap.size) := Nat.lt_of_lt_of_le (Vz.out.lt) (Nat.le_refl _)
        have NE_11_12 : Hid (w11.heap.size < w12.heap.size) := Nat.lt_of_lt_of_le (Vf.out.lt) (Nat.le_refl _)
        have H12 := Lib.hid h12
        clear h12 b12
        have Pd := Lib.hid (Vd.out.next (Below.new1 (.cells #[(.slice sa12 (d6).secs.length sc12), (.slice pa12 (d6).pend.length pc12), .int .i64 d6.left, .bool d6.down] 25)))
        have Px := Lib.hid (Vx.out.next (Below.new1 (.cells #[(.slice sa12 (d6).secs.length sc12), (.slice pa12 (d6).pend.length pc12), .int .i64 d6.left, .bool d6.down] 25)))
        have Pp := Lib.hid (Vp.out.next (Below.new1 (.cells #[(.slice sa12 (d6).secs.length sc12), (.slice pa12 (d6).pend.length pc12), .int .i64 d6.left, .bool d6.down] 25)))
        have Pz := Lib.hid (Vz.out.next (Below.new1 (.cells #[(.slice sa12 (d6).secs.length sc12), (.slice pa12 (d6).pend.length pc12), .int .i64 d6.left, .bool d6.down] 25)))
        have Pf := Lib.hid (Vf.out.next (Below.new1 (.cells #[(.slice sa12 (d6).secs.length sc12), (.slice pa12 (d6).pend.length pc12), .int .i64 d6.left, .bool d6.down] 25)))
        have Pg := Lib.hid (Vr.new (w := w) H12.out BW12.out.size 25)
        have BP : Hid (Below w.heap.size w (w12.alloc (.cells #[(.slice sa12 (d6).secs.length sc12), (.slice pa12 (d6).pend.length pc12), .int .i64 d6.left, .bool d6.down] 25))) := chain BW12.out (Below.new1 _)
        have zs12 : (w12.alloc (.cells #[(.slice sa12 (d6).secs.length sc12), (.slice pa12 (d6).pend.length pc12), .int .i64 d6.left, .bool d6.down] 25)).heap.size = w12.heap.size + 1 := by simp
        have ZS12 := Lib.hid zs12
        clear zs12
        have Qr := Lib.hid (Wr.out.next (Below.new1 (.cells #[(.slice sa12 (d6).secs.length sc12), (.slice pa12 (d6).pend.length pc12), .int .i64 d6.left, .bool d6.down] 25)))
        have Qs := Lib.hid (Ws.out.next (Below.new1 (.cells #[(.slice sa12 (d6).secs.length sc12), (.slice pa12 (d6).pend.length pc12), .int .i64 d6.left, .bool d6.down] 25)))
        have Qt := Lib.hid (Wt.out.next (Below.new1 (.cells #[(.slice sa12 (d6).secs.length sc12), (.slice pa12 (d6).pend.length pc12), .int .i64 d6.left, .bool d6.down] 25)))
        clear Wr Ws Wt
        clear Vd Vx Vp Vz Vf
        obtain ⟨ag, cg, bg, eg, hBg, hDg⟩ := Pg.out.ex
        have xg0 := hBg.c0
        have xg1 := hBg.c1
        have xg2 := hBg.c2
        have xg3 := hBg.c3
        have xgl := hBg.lt
        have HDg := Lib.hid hDg
        clear hBg hDg
        have HC := Lib.hid (conv_v (contents_x ok _ d6 _ HDg.out CK6.out DN6.out) vl6.out)
        go_wp2_with fail
        refine HC.out.mono ?_
        rintro r w13 ⟨um, tm, rfl, h13, b13⟩
        clear HC
        clear xg0 xg1 xg2 xg3 xgl HDg
        have Z13 : Hid ((w12.alloc (.cells #[(.slice sa12 (d6).secs.length sc12), (.slice pa12 (d6).pend.length pc12), .int .i64 d6.left, .bool d6.down] 25)).heap.size ≤ w13.heap.size) := b13.size
        have Wr := Lib.hid (Qr.out.next (b13))
        have Ws := Lib.hid (Qs.out.next (b13))
        have Wt := Lib.hid (Qt.out.next (b13))
        clear Qr Qs Qt
        have Vd := Lib.hid (Pd.out.next b13)
        have Vx := Lib.hid (Px.out.next b13)
        have Vp := Lib.hid (Pp.out.next b13)
        have Vz := Lib.hid (Pz.out.next b13)
        have Vf := Lib.hid (Pf.out.next b13)
        have Vg := Lib.hid (Pg.out.next b13)
        have BW13 : Hid (Below w.heap.size w w13) := chain BP.out b13
        clear BP
        clear Pd Px Pp Pz Pf Pg
        have NE_0_13 : Hid (w.heap.size < w13.heap.size) := Nat.lt_of_lt_of_le (Vd.out.lt) (Nat.le_refl _)
        have NE_4_13 : Hid (w4.heap.size < w13.heap.size) := Nat.lt_of_lt_of_le (Vx.out.lt) (Nat.le_refl _)
        have NE_8_13 : Hid (w8.heap.size < w13.heap.size) := Nat.lt_of_lt_of_le (Vp.out.lt) (Nat.le_refl _)
        have NE_9_13 : Hid (w9.heap.size < w13.heap.size) := Nat.lt_of_lt_of_le (Vz.out.lt) (Nat.le_refl _)
        have NE_11_13 : Hid (w11.heap.size < w13.heap.size) := Nat.lt_of_lt_of_le (Vf.out.lt) (Nat.le_refl _)
        have NE_12_13 : Hid (w12.heap.size < w13.heap.size) := Nat.lt_of_lt_of_le (Vg.out.lt) (Nat.le_refl _)
        have Wm := Lib.hid h13
        clear h13 b13
        have Qr := Lib.hid Wr.out
        have Qs := Lib.hid Ws.out
        have Qt := Lib.hid Wt.out
        have Qm := Lib.hid Wm.out
        clear Wr Ws Wt Wm
        have Pd := Lib.hid Vd.out
        have Px := Lib.hid Vx.out
        have Pp := Lib.hid Vp.out
        have Pz := Lib.hid Vz.out
        have Pf := Lib.hid Vf.out
        have Pg := Lib.hid Vg.out
        have BP := Lib.hid BW13.out
        clear Vd Vx Vp Vz Vf Vg
        obtain ⟨ad, cd, bd, ed, hBd, hDd⟩ := Pd.out.ex
        have xd0 := hBd.c0
        have xd1 := hBd.c1
        have xd2 := hBd.c2
        have xd3 := hBd.c3
        have xdl := hBd.lt
        have HDd := Lib.hid hDd
        clear hBd hDd
        go_wp2_with fail
        refine (same_x _ _ l _ Qt.out Qr.out lll).mono ?_
        rintro r w14 ⟨rfl, b14⟩
        clear xd0 xd1 xd2 xd3 xdl HDd
        have Z14 : Hid (w13.heap.size ≤ w14.heap.size) := b14.size
        have Wr := Lib.hid (Qr.out.next (b14))
        have Ws := Lib.hid (Qs.out.next (b14))
        have Wt := Lib.hid (Qt.out.next (b14))
        have Wm := Lib.hid (Qm.out.next (b14))
        clear Qr Qs Qt Qm
        have Vd := Lib.hid (Pd.out.next b14)
        have Vx := Lib.hid (Px.out.next b14)
        have Vp := Lib.hid (Pp.out.next b14)
        have Vz := Lib.hid (Pz.out.next b14)
        have Vf := Lib.hid (Pf.out.next b14)
        have Vg := Lib.hid (Pg.out.next b14)
        have BW14 : Hid (Below w.heap.size w w14) := chain BP.out b14
        clear BP
        clear Pd Px Pp Pz Pf Pg
        have NE_0_14 : Hid (w.heap.size < w14.heap.size) := Nat.lt_of_lt_of_le (Vd.out.lt) (Nat.le_refl _)
        have NE_4_14 : Hid (w4.heap.size < w14.heap.size) := Nat.lt_of_lt_of_le (Vx.out.lt) (Nat.le_refl _)
        have NE_8_14 : Hid (w8.heap.size < w14.heap.size) := Nat.lt_of_lt_of_le (Vp.out.lt) (Nat.le_refl _)
        have NE_9_14 : Hid (w9.heap.size < w14.heap.size) := Nat.lt_of_lt_of_le (Vz.out.lt) (Nat.le_refl _)
        have NE_11_14 : Hid (w11.heap.size < w14.heap.size) := Nat.lt_of_lt_of_le (Vf.out.lt) (Nat.le_refl _)
        have NE_12_14 : Hid (w12.heap.size < w14.heap.size) := Nat.lt_of_lt_of_le (Vg.out.lt) (Nat.le_refl _)
        clear b14
        have Qr := Lib.hid Wr.out
        have Qs := Lib.hid Ws.out
        have Qt := Lib.hid Wt.out
        have Qm := Lib.hid Wm.out
        clear Wr Ws Wt Wm
        have Pd := Lib.hid Vd.out
        have Px := Lib.hid Vx.out
        have Pp := Lib.hid Vp.out
        have Pz := Lib.hid Vz.out
        have Pf := Lib.hid Vf.out
        have Pg := Lib.hid Vg.out
        have BP := Lib.hid BW14.out
        clear Vd Vx Vp Vz Vf Vg
        obtain ⟨ad, cd, bd, ed, hBd, hDd⟩ := Pd.out.ex
        have xd0 := hBd.c0
        have xd1 := hBd.c1
        have xd2 := hBd.c2
        have xd3 := hBd.c3
        have xdl := hBd.lt
        have HDd := Lib.hid hDd
        clear hBd hDd
        go_wp2_with fail
        refine (same_x _ _ d.secs _ Qm.out HDd.out.secs_at lls).mono ?_
        rintro r w15 ⟨rfl, b15⟩
        have BZ := Lib.hid (chain BP.out b15)
        clear b15
        go_wp2_with fail
        go_ret
        exact ⟨rfl, BZ.out⟩
      case neg =>
        have u0 : d.left = -1 := by omega
        have u1 : (d.left == -1) = true := by simp; omega
        have u3 : (d2.left != -1) = false := by rw [HNL.out, HNL2.out, if_neg u]; simp
        clear u0
        obtain ⟨ad, cd, bd, ed, hBd, hDd⟩ := Pd.out.ex
        have xd0 := hBd.c0
        have xd1 := hBd.c1
        have xd2 := hBd.c2
        have xd3 := hBd.c3
        have xdl := hBd.lt
        have HDd := Lib.hid hDd
        clear hBd hDd
        have HC := Lib.hid (conv_v (contents_x ok _ d _ HDd.out CK.out DN.out) VL.out)
        go_wp2_with fail
        refine HC.out.mono ?_
        rintro r w3 ⟨ur, tr, rfl, h3, b3⟩
        clear HC
        clear xd0 xd1 xd2 xd3 xdl HDd
        have Z3 : Hid (w2.heap.size ≤ w3.heap.size) := b3.size
        have Vd := Lib.hid (Pd.out.next b3)
        have BW3 : Hid (Below w.heap.size w w3) := chain BP.out b3
        clear BP
        clear Pd
        have NE_0_3 : Hid (w.heap.size < w3.heap.size) := Nat.lt_of_lt_of_le (Vd.out.lt) (Nat.le_refl _)
        have Wr := Lib.hid h3
        clear h3 b3
        have Qr := Lib.hid Wr.out
        clear Wr
        have Pd := Lib.hid Vd.out
        have BP := Lib.hid BW3.out
        clear Vd
        obtain ⟨ad, cd, bd, ed, hBd, hDd⟩ := Pd.out.ex
        have xd0 := hBd.c0
        have xd1 := hBd.c1
        have xd2 := hBd.c2
        have xd3 := hBd.c3
        have xdl := hBd.lt
        have HDd := Lib.hid hDd
        clear hBd hDd
        have HC := Lib.hid (conv_d (ok.flush _ d  _ HDd.out FD.out) E1.out)
        go_wp2_with fail
        refine HC.out.mono ?_
        rintro r w4 ⟨sa4, sc4, pa4, pc4, rfl, h4, b4⟩
        clear HC
        clear xd0 xd1 xd2 xd3 xdl HDd
        have Z4 : Hid (w3.heap.size ≤ w4.heap.size) := b4.size
        have Wr := Lib.hid (Qr.out.next (b4))
        clear Qr
        have Vd := Lib.hid (Pd.out.next b4)
        have BW4 : Hid (Below w.heap.size w w4) := chain BP.out b4
        clear BP
        clear Pd
        have NE_0_4 : Hid (w.heap.size < w4.heap.size) := Nat.lt_of_lt_of_le (Vd.out.lt) (Nat.le_refl _)
        have H4 := Lib.hid h4
        clear h4 b4
        have Pd := Lib.hid (Vd.out.next (Below.new1 (.cells #[(.slice sa4 (d2).secs.length sc4), (.slice pa4 (d2).pend.length pc4), .int .i64 d2.left, .bool d2.down] 25)))
        have Px := Lib.hid (Vr.new (w := w) H4.out BW4.out.size 25)
        have BP : Hid (Below w.heap.size w (w4.alloc (.cells #[(.slice sa4 (d2).secs.length sc4), (.slice pa4 (d2).pend.length pc4), .int .i64 d2.left, .bool d2.down] 25))) := chain BW4.out (Below.new1 _)
        have zs4 : (w4.alloc (.cells #[(.slice sa4 (d2).secs.length sc4), (.slice pa4 (d2).pend.length pc4), .int .i64 d2.left, .bool d2.down] 25)).heap.size = w4.heap.size + 1 := by simp
        have ZS4 := Lib.hid zs4
        clear zs4
        have Qr := Lib.hid (Wr.out.next (Below.new1 (.cells #[(.slice sa4 (d2).secs.length sc4), (.slice pa4 (d2).pend.length pc4), .int .i64 d2.left, .bool d2.down] 25)))
        clear Wr
        clear Vd
        obtain ⟨ax, cx, bx, ex, hBx, hDx⟩ := Px.out.ex
        have xx0 := hBx.c0
        have xx1 := hBx.c1
        have xx2 := hBx.c2
        have xx3 := hBx.c3
        have xxl := hBx.lt
        have HDx := Lib.hid hDx
        clear hBx hDx
        have HC := Lib.hid (conv_v (contents_x ok _ d2 _ HDx.out CK2.out DN2.out) vl2.out)
        go_wp2_with fail
        refine HC.out.mono ?_
        rintro r w5 ⟨us, ts, rfl, h5, b5⟩
        clear HC
        clear xx0 xx1 xx2 xx3 xxl HDx
        have Z5 : Hid ((w4.alloc (.cells #[(.slice sa4 (d2).secs.length sc4), (.slice pa4 (d2).pend.length pc4), .int .i64 d2.left, .bool d2.down] 25)).heap.size ≤ w5.heap.size) := b5.size
        have Wr := Lib.hid (Qr.out.next (b5))
        clear Qr
        have Vd := Lib.hid (Pd.out.next b5)
        have Vx := Lib.hid (Px.out.next b5)
        have BW5 : Hid (Below w.heap.size w w5) := chain BP.out b5
        clear BP
        clear Pd Px
        have NE_0_5 : Hid (w.heap.size < w5.heap.size) := Nat.lt_of_lt_of_le (Vd.out.lt) (Nat.le_refl _)
        have NE_4_5 : Hid (w4.heap.size < w5.heap.size) := Nat.lt_of_lt_of_le (Vx.out.lt) (Nat.le_refl _)
        have Ws := Lib.hid h5
        clear h5 b5
        have Qr := Lib.hid Wr.out
        have Qs := Lib.hid Ws.out
        clear Wr Ws
        have Pd := Lib.hid Vd.out
        have Px := Lib.hid Vx.out
        have BP := Lib.hid BW5.out
        clear Vd Vx
        obtain ⟨ad, cd, bd, ed, hBd, hDd⟩ := Pd.out.ex
        have xd0 := hBd.c0
        have xd1 := hBd.c1
        have xd2 := hBd.c2
        have xd3 := hBd.c3
        have xdl := hBd.lt
        have HDd := Lib.hid hDd
        clear hBd hDd
        obtain ⟨ax, cx, bx, ex, hBx, hDx⟩ := Px.out.ex
        rw [PE.out] at hBx hDx
        have xx0 := hBx.c0
        have xx1 := hBx.c1
        have xx2 := hBx.c2
        have xx3 := hBx.c3
        have xxl := hBx.lt
        have HDx := Lib.hid hDx
        clear hBx hDx
        go_wp2_with fail
        refine (same_x _ _ l _ Qr.out Qs.out lll).mono ?_
        rintro r w6 ⟨rfl, b6⟩
        clear xd0 xd1 xd2 xd3 xdl HDd
        clear xx0 xx1 xx2 xx3 xxl HDx
        have Z6 : Hid (w5.heap.size ≤ w6.heap.size) := b6.size
        have Wr := Lib.hid (Qr.out.next (b6))
        have Ws := Lib.hid (Qs.out.next (b6))
        clear Qr Qs
        have Vd := Lib.hid (Pd.out.next b6)
        have Vx := Lib.hid (Px.out.next b6)
        have BW6 : Hid (Below w.heap.size w w6) := chain BP.out b6
        clear BP
        clear Pd Px
        have NE_0_6 : Hid (w.heap.size < w6.heap.size) := Nat.lt_of_lt_of_le (Vd.out.lt) (Nat.le_refl _)
        have NE_4_6 : Hid (w4.heap.size < w6.heap.size) := Nat.lt_of_lt_of_le (Vx.out.lt) (Nat.le_refl _)
        clear b6
        have Qr := Lib.hid Wr.out
        have Qs := Lib.hid Ws.out
        clear Wr Ws
        have Pd := Lib.hid Vd.out
        have Px := Lib.hid Vx.out
        have BP := Lib.hid BW6.out
        clear Vd Vx
        obtain ⟨ad, cd, bd, ed, hBd, hDd⟩ := Pd.out.ex
        have xd0 := hBd.c0
        have xd1 := hBd.c1
        have xd2 := hBd.c2
        have xd3 := hBd.c3
        have xdl := hBd.lt
        have HDd := Lib.hid hDd
        clear hBd hDd
        obtain ⟨ax, cx, bx, ex, hBx, hDx⟩ := Px.out.ex
        rw [PE.out] at hBx hDx
        have xx0 := hBx.c0
        have xx1 := hBx.c1
        have xx2 := hBx.c2
        have xx3 := hBx.c3
        have xxl := hBx.lt
        have HDx := Lib.hid hDx
        clear hBx hDx
        go_wp2_with fail
        refine (ok.check _ d2 _ HDx.out FD2.out).mono ?_
        rintro r w7 ⟨rfl, b7⟩
        rw [hc2]
        clear xd0 xd1 xd2 xd3 xdl HDd
        clear xx0 xx1 xx2 xx3 xxl HDx
        have Z7 : Hid (w6.heap.size ≤ w7.heap.size) := b7.size
        have Wr := Lib.hid (Qr.out.next (b7))
        have Ws := Lib.hid (Qs.out.next (b7))
        clear Qr Qs
        have Vd := Lib.hid (Pd.out.next b7)
        have Vx := Lib.hid (Px.out.next b7)
        have BW7 : Hid (Below w.heap.size w w7) := chain BP.out b7
        clear BP
        clear Pd Px
        have NE_0_7 : Hid (w.heap.size < w7.heap.size) := Nat.lt_of_lt_of_le (Vd.out.lt) (Nat.le_refl _)
        have NE_4_7 : Hid (w4.heap.size < w7.heap.size) := Nat.lt_of_lt_of_le (Vx.out.lt) (Nat.le_refl _)
        clear b7
        have Qr := Lib.hid Wr.out
        have Qs := Lib.hid Ws.out
        clear Wr Ws
        have Pd := Lib.hid Vd.out
        have Px := Lib.hid Vx.out
        have BP := Lib.hid BW7.out
        clear Vd Vx
        obtain ⟨ax, cx, bx, ex, hBx, hDx⟩ := Px.out.ex
        rw [PE.out] at hBx hDx
        have xx0 := hBx.c0
        have xx1 := hBx.c1
        have xx2 := hBx.c2
        have xx3 := hBx.c3
        have xxl := hBx.lt
        have HDx := Lib.hid hDx
        clear hBx hDx
        obtain ⟨ad, cd, bd, ed, hBd, hDd⟩ := Pd.out.ex
        have xd0 := hBd.c0
        have xd1 := hBd.c1
        have xd2 := hBd.c2
        have xd3 := hBd.c3
        have xdl := hBd.lt
        have HDd := Lib.hid hDd
        clear hBd hDd
        have HC := Lib.hid (conv_d (ok.cut _ d2  _ HDx.out FD2.out) E2.out)
        go_wp2_with fail
        refine HC.out.mono ?_
        rintro r w8 ⟨sa8, sc8, pa8, pc8, rfl, h8, b8⟩
        clear HC
        clear xx0 xx1 xx2 xx3 xxl HDx
        clear xd0 xd1 xd2 xd3 xdl HDd
        have Z8 : Hid (w7.heap.size ≤ w8.heap.size) := b8.size
        have Wr := Lib.hid (Qr.out.next (b8))
        have Ws := Lib.hid (Qs.out.next (b8))
        clear Qr Qs
        have Vd := Lib.hid (Pd.out.next b8)
        have Vx := Lib.hid (Px.out.next b8)
        have BW8 : Hid (Below w.heap.size w w8) := chain BP.out b8
        clear BP
        clear Pd Px
        have NE_0_8 : Hid (w.heap.size < w8.heap.size) := Nat.lt_of_lt_of_le (Vd.out.lt) (Nat.le_refl _)
        have NE_4_8 : Hid (w4.heap.size < w8.heap.size) := Nat.lt_of_lt_of_le (Vx.out.lt) (Nat.le_refl _)
        have H8 := Lib.hid h8
        clear h8 b8
        have Pd := Lib.hid (Vd.out.next (Below.new1 (.cells #[(.slice sa8 (d3).secs.length sc8), (.slice pa8 (d3).pend.length pc8), .int .i64 d3.left, .bool d3.down] 25)))
        have Px := Lib.hid (Vx.out.next (Below.new1 (.cells #[(.slice sa8 (d3).secs.length sc8), (.slice pa8 (d3).pend.length pc8), .int .i64 d3.left, .bool d3.down] 25)))
        have Pp := Lib.hid (Vr.new (w := w) H8.out BW8.out.size 25)
        have BP : Hid (Below w.heap.size w (w8.alloc (.cells #[(.slice sa8 (d3).secs.length sc8), (.slice pa8 (d3).pend.length pc8), .int .i64 d3.left, .bool d3.down] 25))) := chain BW8.out (Below.new1 _)
        have zs8 : (w8.alloc (.cells #[(.slice sa8 (d3).secs.length sc8), (.slice pa8 (d3).pend.length pc8), .int .i64 d3.left, .bool d3.down] 25)).heap.size = w8.heap.size + 1 := by simp
        have ZS8 := Lib.hid zs8
        clear zs8
        have Qr := Lib.hid (Wr.out.next (Below.new1 (.cells #[(.slice sa8 (d3).secs.length sc8), (.slice pa8 (d3).pend.length pc8), .int .i64 d3.left, .bool d3.down] 25)))
        have Qs := Lib.hid (Ws.out.next (Below.new1 (.cells #[(.slice sa8 (d3).secs.length sc8), (.slice pa8 (d3).pend.length pc8), .int .i64 d3.left, .bool d3.down] 25)))
        clear Wr Ws
        clear Vd Vx
        obtain ⟨ap, cp, bp, ep, hBp, hDp⟩ := Pp.out.ex
        have xp0 := hBp.c0
        have xp1 := hBp.c1
        have xp2 := hBp.c2
        have xp3 := hBp.c3
        have xpl := hBp.lt
        have HDp := Lib.hid hDp
        clear hBp hDp
        have HC := Lib.hid (conv_d (ok.start _ d3  _ HDp.out FD3.out) E3.out)
        go_wp2_with fail
        refine HC.out.mono ?_
        rintro r w9 ⟨sa9, sc9, pa9, pc9, rfl, h9, b9⟩
        clear HC
        clear xp0 xp1 xp2 xp3 xpl HDp
        have Z9 : Hid ((w8.alloc (.cells #[(.slice sa8 (d3).secs.length sc8), (.slice pa8 (d3).pend.length pc8), .int .i64 d3.left, .bool d3.down] 25)).heap.size ≤ w9.heap.size) := b9.size
        have Wr := Lib.hid (Qr.out.next (b9))
        have Ws := Lib.hid (Qs.out.next (b9))
        clear Qr Qs
        have Vd := Lib.hid (Pd.out.next b9)
        have Vx := Lib.hid (Px.out.next b9)
        have Vp := Lib.hid (Pp.out.next b9)
        have BW9 : Hid (Below w.heap.size w w9) := chain BP.out b9
        clear BP
        clear Pd Px Pp
        have NE_0_9 : Hid (w.heap.size < w9.heap.size) := Nat.lt_of_lt_of_le (Vd.out.lt) (Nat.le_refl _)
        have NE_4_9 : Hid (w4.heap.size < w9.heap.size) := Nat.lt_of_lt_of_le (Vx.out.lt) (Nat.le_refl _)
        have NE_8_9 : Hid (w8.heap.size < w9.heap.size) := Nat.lt_of_lt_of_le (Vp.out.lt) (Nat.le_refl _)
        have H9 := Lib.hid h9
        clear h9 b9
        have Pd := Lib.hid (Vd.out.next (Below.new1 (.cells #[(.slice sa9 (d4).secs.length sc9), (.slice pa9 (d4).pend.length pc9), .int .i64 d4.left, .bool d4.down] 25)))
        have Px := Lib.hid (Vx.out.next (Below.new1 (.cells #[(.slice sa9 (d4).secs.length sc9), (.slice pa9 (d4).pend.length pc9), .int .i64 d4.left, .bool d4.down] 25)))
        have Pp := Lib.hid (Vp.out.next (Below.new1 (.cells #[(.slice sa9 (d4).secs.length sc9), (.slice pa9 (d4).pend.length pc9), .int .i64 d4.left, .bool d4.down] 25)))
        have Pz := Lib.hid (Vr.new (w := w) H9.out BW9.out.size 25)
        have BP : Hid (Below w.heap.size w (w9.alloc (.cells #[(.slice sa9 (d4).secs.length sc9), (.slice pa9 (d4).pend.length pc9), .int .i64 d4.left, .bool d4.down] 25))) := chain BW9.out (Below.new1 _)
        have zs9 : (w9.alloc (.cells #[(.slice sa9 (d4).secs.length sc9), (.slice pa9 (d4).pend.length pc9), .int .i64 d4.left, .bool d4.down] 25)).heap.size = w9.heap.size + 1 := by simp
        have ZS9 := Lib.hid zs9
        clear zs9
        have Qr := Lib.hid (Wr.out.next (Below.new1 (.cells #[(.slice sa9 (d4).secs.length sc9), (.slice pa9 (d4).pend.length pc9), .int .i64 d4.left, .bool d4.down] 25)))
        have Qs := Lib.hid (Ws.out.next (Below.new1 (.cells #[(.slice sa9 (d4).secs.length sc9), (.slice pa9 (d4).pend.length pc9), .int .i64 d4.left, .bool d4.down] 25)))
        clear Wr Ws
        clear Vd Vx Vp
        obtain ⟨az, cz, bz, ez, hBz, hDz⟩ := Pz.out.ex
        have xz0 := hBz.c0
        have xz1 := hBz.c1
        have xz2 := hBz.c2
        have xz3 := hBz.c3
        have xzl := hBz.lt
        have HDz := Lib.hid hDz
        clear hBz hDz
        have HC := Lib.hid (conv_v (contents_x ok _ d4 _ HDz.out CK4.out DN4.out) vl4.out)
        go_wp2_with fail
        refine HC.out.mono ?_
        rintro r w10 ⟨ut, tt, rfl, h10, b10⟩
        clear HC
        clear xz0 xz1 xz2 xz3 xzl HDz
        have Z10 : Hid ((w9.alloc (.cells #[(.slice sa9 (d4).secs.length sc9), (.slice pa9 (d4).pend.length pc9), .int .i64 d4.left, .bool d4.down] 25)).heap.size ≤ w10.heap.size) := b10.size
        have Wr := Lib.hid (Qr.out.next (b10))
        have Ws := Lib.hid (Qs.out.next (b10))
        clear Qr Qs
        have Vd := Lib.hid (Pd.out.next b10)
        have Vx := Lib.hid (Px.out.next b10)
        have Vp := Lib.hid (Pp.out.next b10)
        have Vz := Lib.hid (Pz.out.next b10)
        have BW10 : Hid (Below w.heap.size w w10) := chain BP.out b10
        clear BP
        clear Pd Px Pp Pz
        have NE_0_10 : Hid (w.heap.size < w10.heap.size) := Nat.lt_of_lt_of_le (Vd.out.lt) (Nat.le_refl _)
        have NE_4_10 : Hid (w4.heap.size < w10.heap.size) := Nat.lt_of_lt_of_le (Vx.out.lt) (Nat.le_refl _)
        have NE_8_10 : Hid (w8.heap.size < w10.heap.size) := Nat.lt_of_lt_of_le (Vp.out.lt) (Nat.le_refl _)
        have NE_9_10 : Hid (w9.heap.size < w10.heap.size) := Nat.lt_of_lt_of_le (Vz.out.lt) (Nat.le_refl _)
        have Wt := Lib.hid h10
        clear h10 b10
        have Qr := Lib.hid Wr.out
        have Qs := Lib.hid Ws.out
        have Qt := Lib.hid Wt.out
        clear Wr Ws Wt
        have Pd := Lib.hid Vd.out
        have Px := Lib.hid Vx.out
        have Pp := Lib.hid Vp.out
        have Pz := Lib.hid Vz.out
        have BP := Lib.hid BW10.out
        clear Vd Vx Vp Vz
        obtain ⟨ad, cd, bd, ed, hBd, hDd⟩ := Pd.out.ex
        have xd0 := hBd.c0
        have xd1 := hBd.c1
        have xd2 := hBd.c2
        have xd3 := hBd.c3
        have xdl := hBd.lt
        have HDd := Lib.hid hDd
        clear hBd hDd
        have HC := Lib.hid (conv_d (ok.cut _ d  _ HDd.out FD.out) E4.out)
        go_wp2_with fail
        refine HC.out.mono ?_
        rintro r w11 ⟨sa11, sc11, pa11, pc11, rfl, h11, b11⟩
        clear HC
        clear xd0 xd1 xd2 xd3 xdl HDd
        have Z11 : Hid (w10.heap.size ≤ w11.heap.size) := b11.size
        have Wr := Lib.hid (Qr.out.next (b11))
        have Ws := Lib.hid (Qs.out.next (b11))
        have Wt := Lib.hid (Qt.out.next (b11))
        clear Qr Qs Qt
        have Vd := Lib.hid (Pd.out.next b11)
        have Vx := Lib.hid (Px.out.next b11)
        have Vp := Lib.hid (Pp.out.next b11)
        have Vz := Lib.hid (Pz.out.next b11)
        have BW11 : Hid (Below w.heap.size w w11) := chain BP.out b11
        clear BP
        clear Pd Px Pp Pz
        have NE_0_11 : Hid (w.heap.size < w11.heap.size) := Nat.lt_of_lt_of_le (Vd.out.lt) (Nat.le_refl _)
        have NE_4_11 : Hid (w4.heap.size < w11.heap.size) := Nat.lt_of_lt_of_le (Vx.out.lt) (Nat.le_refl _)
        have NE_8_11 : Hid (w8.heap.size < w11.heap.size) := Nat.lt_of_lt_of_le (Vp.out.lt) (Nat.le_refl _)
        have NE_9_11 : Hid (w9.heap.size < w11.heap.size) := Nat.lt_of_lt_of_le (Vz.out.lt) (Nat.le_refl _)
        have H11 := Lib.hid h11
        clear h11 b11
        have Pd := Lib.hid (Vd.out.next (Below.new1 (.cells #[(.slice sa11 (d5).secs.length sc11), (.slice pa11 (d5).pend.length pc11), .int .i64 d5.left, .bool d5.down] 25)))
        have Px := Lib.hid (Vx.out.next (Below.new1 (.cells #[(.slice sa11 (d5).secs.length sc11), (.slice pa11 (d5).pend.length pc11), .int .i64 d5.left, .bool d5.down] 25)))
        have Pp := Lib.hid (Vp.out.next (Below.new1 (.cells #[(.slice sa11 (d5).secs.length sc11), (.slice pa11 (d5).pend.length pc11), .int .i64 d5.left, .bool d5.down] 25)))
        have Pz := Lib.hid (Vz.out.next (Below.new1 (.cells #[(.slice sa11 (d5).secs.length sc11), (.slice pa11 (d5).pend.length pc11), .int .i64 d5.left, .bool d5.down] 25)))
        have Pf := Lib.hid (Vr.new (w := w) H11.out BW11.out.size 25)
        have BP : Hid (Below w.heap.size w (w11.alloc (.cells #[(.slice sa11 (d5).secs.length sc11), (.slice pa11 (d5).pend.length pc11), .int .i64 d5.left, .bool d5.down] 25))) := chain BW11.out (Below.new1 _)
        have zs11 : (w11.alloc (.cells #[(.slice sa11 (d5).secs.length sc11), (.slice pa11 (d5).pend.length pc11), .int .i64 d5.left, .bool d5.down] 25)).heap.size = w11.heap.size + 1 := by simp
        have ZS11 := Lib.hid zs11
        clear zs11
        have Qr := Lib.hid (Wr.out.next (Below.new1 (.cells #[(.slice sa11 (d5).secs.length sc11), (.slice pa11 (d5).pend.length pc11), .int .i64 d5.left, .bool d5.down] 25)))
        have Qs := Lib.hid (Ws.out.next (Below.new1 (.cells #[(.slice sa11 (d5).secs.length sc11), (.slice pa11 (d5).pend.length pc11), .int .i64 d5.left, .bool d5.down] 25)))
        have Qt := Lib.hid (Wt.out.next (Below.new1 (.cells #[(.slice sa11 (d5).secs.length sc11), (.slice pa11 (d5).pend.length pc11), .int .i64 d5.left, .bool d5.down] 25)))
        clear Wr Ws Wt
        clear Vd Vx Vp Vz
        obtain ⟨af, cf, bf, ef, hBf, hDf⟩ := Pf.out.ex
        have xf0 := hBf.c0
        have xf1 := hBf.c1
        have xf2 := hBf.c2
        have xf3 := hBf.c3
        have xfl := hBf.lt
        have HDf := Lib.hid hDf
        clear hBf hDf
        have HC := Lib.hid (conv_d (ok.start _ d5  _ HDf.out FD5.out) E5.out)
        go_wp2_with fail
        refine HC.out.mono ?_
        rintro r w12 ⟨sa12, sc12, pa12, pc12, rfl, h12, b12⟩
        clear HC
        clear xf0 xf1 xf2 xf3 xfl HDf
        have Z12 : Hid ((w11.alloc (.cells #[(.slice sa11 (d5).secs.length sc11), (.slice pa11 (d5).pend.length pc11), .int .i64 d5.left, .bool d5.down] 25)).heap.size ≤ w12.heap.size) := b12.size
        have Wr := Lib.hid (Qr.out.next (b12))
        have Ws := Lib.hid (Qs.out.next (b12))
        have Wt := Lib.hid (Qt.out.next (b12))
        clear Qr Qs Qt
        have Vd := Lib.hid (Pd.out.next b12)
        have Vx := Lib.hid (Px.out.next b12)
        have Vp := Lib.hid (Pp.out.next b12)
        have Vz := Lib.hid (Pz.out.next b12)
        have Vf := Lib.hid (Pf.out.next b12)
        have BW12 : Hid (Below w.heap.size w w12) := chain BP.out b12
        clear BP
        clear Pd Px Pp Pz Pf
        have NE_0_12 : Hid (w.heap.size < w12.heap.size) := Nat.lt_of_lt_of_le (Vd.out.lt) (Nat.le_refl _)
        have NE_4_12 : Hid (w4.heap.size < w12.heap.size) := Nat.lt_of_lt_of_le (Vx.out.lt) (Nat.le_refl _)
        have NE_8_12 : Hid (w8.heap.size < w12.heap.size) := Nat.lt_of_lt_of_le (Vp.out.lt) (Nat.le_refl _)
        have NE_9_12 : Hid (w9.heap.size < w12.heap.size) := Nat.lt_of_lt_of_le (Vz.out.lt) (Nat.le_refl _)
        have NE_11_12 : Hid (w11.heap.size < w12.heap.size) := Nat.lt_of_lt_of_le (Vf.out.lt) (Nat.le_refl _)
        have H12 := Lib.hid h12
        clear h12 b12
        have Pd := Lib.hid (Vd.out.next (Below.new1 (.cells #[(.slice sa12 (d6).secs.length sc12), (.slice pa12 (d6).pend.length pc12), .int .i64 d6.left, .bool d6.down] 25)))
        have Px := Lib.hid (Vx.out.next (Below.new1 (.cells #[(.slice sa12 (d6).secs.length sc12), (.slice pa12 (d6).pend.length pc12), .int .i64 d6.left, .bool d6.down] 25)))
        have Pp := Lib.hid (Vp.out.next (Below.new1 (.cells #[(.slice sa12 (d6).secs.length sc12), (.slice pa12 (d6).pend.length pc12), .int .i64 d6.left, .bool d6.down] 25)))
        have Pz := Lib.hid (Vz.out.next (Below.new1 (.cells #[(.slice sa12 (d6).secs.length sc12), (.slice pa12 (d6).pend.length pc12), .int .i64 d6.left, .bool d6.down] 25)))
        have Pf := Lib.hid (Vf.out.next (Below.new1 (.cells #[(.slice sa12 (d6).secs.length sc12), (.slice pa12 (d6).pend.length pc12), .int .i64 d6.left, .bool d6.down] 25)))
        have Pg := Lib.hid (Vr.new (w := w) H12.out BW12.out.size 25)
        have BP : Hid (Below w.heap.size w (w12.alloc (.cells #[(.slice sa12 (d6).secs.length sc12), (.slice pa12 (d6).pend.length pc12), .int .i64 d6.left, .bool d6.down] 25))) := chain BW12.out (Below.new1 _)
        have zs12 : (w12.alloc (.cells #[(.slice sa12 (d6).secs.length sc12), (.slice pa12 (d6).pend.length pc12), .int .i64 d6.left, .bool d6.down] 25)).heap.size = w12.heap.size + 1 := by simp
        have ZS12 := Lib.hid zs12
        clear zs12
        have Qr := Lib.hid (Wr.out.next (Below.new1 (.cells #[(.slice sa12 (d6).secs.length sc12), (.slice pa12 (d6).pend.length pc12), .int .i64 d6.left, .bool d6.down] 25)))
        have Qs := Lib.hid (Ws.out.next (Below.new1 (.cells #[(.slice sa12 (d6).secs.length sc12), (.slice pa12 (d6).pend.length pc12), .int .i64 d6.left, .bool d6.down] 25)))
        have Qt := Lib.hid (Wt.out.next (Below.new1 (.cells #[(.slice sa12 (d6).secs.length sc12), (.slice pa12 (d6).pend.length pc12), .int .i64 d6.left, .bool d6.down] 25)))
        clear Wr Ws Wt
        clear Vd Vx Vp Vz Vf
        obtain ⟨ag, cg, bg, eg, hBg, hDg⟩ := Pg.out.ex
        have xg0 := hBg.c0
        have xg1 := hBg.c1
        have xg2 := hBg.c2
        have xg3 := hBg.c3
        have xgl := hBg.lt
        have HDg := Lib.hid hDg
        clear hBg hDg
        have HC := Lib.hid (conv_v (contents_x ok _ d6 _ HDg.out CK6.out DN6.out) vl6.out)
        go_wp2_with fail
        refine HC.out.mono ?_
        rintro r w13 ⟨um, tm, rfl, h13, b13⟩
        clear HC
        clear xg0 xg1 xg2 xg3 xgl HDg
        have Z13 : Hid ((w12.alloc (.cells #[(.slice sa12 (d6).secs.length sc12), (.slice pa12 (d6).pend.length pc12), .int .i64 d6.left, .bool d6.down] 25)).heap.size ≤ w13.heap.size) := b13.size
        have Wr := Lib.hid (Qr.out.next (b13))
        have Ws := Lib.hid (Qs.out.next (b13))
        have Wt := Lib.hid (Qt.out.next (b13))
        clear Qr Qs Qt
        have Vd := Lib.hid (Pd.out.next b13)
        have Vx := Lib.hid (Px.out.next b13)
        have Vp := Lib.hid (Pp.out.next b13)
        have Vz := Lib.hid (Pz.out.next b13)
        have Vf := Lib.hid (Pf.out.next b13)
        have Vg := Lib.hid (Pg.out.next b13)
        have BW13 : Hid (Below w.heap.size w w13) := chain BP.out b13
        clear BP
        clear Pd Px Pp Pz Pf Pg
        have NE_0_13 : Hid (w.heap.size < w13.heap.size) := Nat.lt_of_lt_of_le (Vd.out.lt) (Nat.le_refl _)
        have NE_4_13 : Hid (w4.heap.size < w13.heap.size) := Nat.lt_of_lt_of_le (Vx.out.lt) (Nat.le_refl _)
        have NE_8_13 : Hid (w8.heap.size < w13.heap.size) := Nat.lt_of_lt_of_le (Vp.out.lt) (Nat.le_refl _)
        have NE_9_13 : Hid (w9.heap.size < w13.heap.size) := Nat.lt_of_lt_of_le (Vz.out.lt) (Nat.le_refl _)
        have NE_11_13 : Hid (w11.heap.size < w13.heap.size) := Nat.lt_of_lt_of_le (Vf.out.lt) (Nat.le_refl _)
        have NE_12_13 : Hid (w12.heap.size < w13.heap.size) := Nat.lt_of_lt_of_le (Vg.out.lt) (Nat.le_refl _)
        have Wm := Lib.hid h13
        clear h13 b13
        have Qr := Lib.hid Wr.out
        have Qs := Lib.hid Ws.out
        have Qt := Lib.hid Wt.out
        have Qm := Lib.hid Wm.out
        clear Wr Ws Wt Wm
        have Pd := Lib.hid Vd.out
        have Px := Lib.hid Vx.out
        have Pp := Lib.hid Vp.out
        have Pz := Lib.hid Vz.out
        have Pf := Lib.hid Vf.out
        have Pg := Lib.hid Vg.out
        have BP := Lib.hid BW13.out
        clear Vd Vx Vp Vz Vf Vg
        obtain ⟨ad, cd, bd, ed, hBd, hDd⟩ := Pd.out.ex
        have xd0 := hBd.c0
        have xd1 := hBd.c1
        have xd2 := hBd.c2
        have xd3 := hBd.c3
        have xdl := hBd.lt
        have HDd := Lib.hid hDd
        clear hBd hDd
        go_wp2_with fail
        refine (same_x _ _ l _ Qt.out Qr.out lll).mono ?_
        rintro r w14 ⟨rfl, b14⟩
        clear xd0 xd1 xd2 xd3 xdl HDd
        have Z14 : Hid (w13.heap.size ≤ w14.heap.size) := b14.size
        have Wr := Lib.hid (Qr.out.next (b14))
        have Ws := Lib.hid (Qs.out.next (b14))
        have Wt := Lib.hid (Qt.out.next (b14))
        have Wm := Lib.hid (Qm.out.next (b14))
        clear Qr Qs Qt Qm
        have Vd := Lib.hid (Pd.out.next b14)
        have Vx := Lib.hid (Px.out.next b14)
        have Vp := Lib.hid (Pp.out.next b14)
        have Vz := Lib.hid (Pz.out.next b14)
        have Vf := Lib.hid (Pf.out.next b14)
        have Vg := Lib.hid (Pg.out.next b14)
        have BW14 : Hid (Below w.heap.size w w14) := chain BP.out b14
        clear BP
        clear Pd Px Pp Pz Pf Pg
        have NE_0_14 : Hid (w.heap.size < w14.heap.size) := Nat.lt_of_lt_of_le (Vd.out.lt) (Nat.le_refl _)
        have NE_4_14 : Hid (w4.heap.size < w14.heap.size) := Nat.lt_of_lt_of_le (Vx.out.lt) (Nat.le_refl _)
        have NE_8_14 : Hid (w8.heap.size < w14.heap.size) := Nat.lt_of_lt_of_le (Vp.out.lt) (Nat.le_refl _)
        have NE_9_14 : Hid (w9.heap.size < w14.heap.size) := Nat.lt_of_lt_of_le (Vz.out.lt) (Nat.le_refl _)
        have NE_11_14 : Hid (w11.heap.size < w14.heap.size) := Nat.lt_of_lt_of_le (Vf.out.lt) (Nat.le_refl _)
        have NE_12_14 : Hid (w12.heap.size < w14.heap.size) := Nat.lt_of_lt_of_le (Vg.out.lt) (Nat.le_refl _)
        clear b14
        have Qr := Lib.hid Wr.out
        have Qs := Lib.hid Ws.out
        have Qt := Lib.hid Wt.out
        have Qm := Lib.hid Wm.out
        clear Wr Ws Wt Wm
        have Pd := Lib.hid Vd.out
        have Px := Lib.hid Vx.out
        have Pp := Lib.hid Vp.out
        have Pz := Lib.hid Vz.out
        have Pf := Lib.hid Vf.out
        have Pg := Lib.hid Vg.out
        have BP := Lib.hid BW14.out
        clear Vd Vx Vp Vz Vf Vg
        obtain ⟨ad, cd, bd, ed, hBd, hDd⟩ := Pd.out.ex
        have xd0 := hBd.c0
        have xd1 := hBd.c1
        have xd2 := hBd.c2
        have xd3 := hBd.c3
        have xdl := hBd.lt
        have HDd := Lib.hid hDd
        clear hBd hDd
        go_wp2_with fail
        refine (same_x _ _ d.secs _ Qm.out HDd.out.secs_at lls).mono ?_
        rintro r w15 ⟨rfl, b15⟩
        have BZ := Lib.hid (chain BP.out b15)
        clear b15
        go_wp2_with fail
        go_ret
        exact ⟨rfl, BZ.out⟩

end Go.Proofs.Ytcbeodhopimmlaa
