/-
  DiskParts.
-/
import Derived.Test.YtcbeodhopimmlaaLawB
namespace Go.Proofs.Ytcbeodhopimmlaa
open Go.RowKit Dk

theorem wr_ok {d : D} {a : Int} {s : B} (h : checkB d = true) (hd : d.down = false) (ha : 0 ≤ a ∧ a < (d.secs.length : Int)) (hs : s.size ≤ 16) (hp : d.pend.length < 512) : wrV d a s = (⟨d.secs, d.pend ++ [(a, pad s)], d.left, d.down⟩, 0) := by
  unfold wrV
  rw [if_pos (upE_zero.2 ⟨h, hd⟩), if_pos ⟨ha.1, ha.2, hs⟩, if_pos hp]
theorem fl_ok {d : D} (h : checkB d = true) (hd : d.down = false) (hl : ¬ (0 ≤ d.left ∧ d.left < (d.pend.length : Int))) : flV d = (flushD d, 0) := by
  unfold flV
  rw [if_pos (upE_zero.2 ⟨h, hd⟩), if_neg hl]
theorem flush_none {d : D} (h : d.left = -1) : flushD d = ⟨perf d.secs d.pend, [], -1, false⟩ := by unfold flushD; rw [h, if_neg (by omega)]

set_option maxHeartbeats 25600000 in
set_option maxRecDepth 100000 in
theorem parts_x (ok : DiskOk) (sm : SmallOk) (v : Value) (d : D) (a : Nat) (s : B) (w : World) (h : DAt w v d) (hf : FitW d) (ha : a < 256) (hs : s.size ≤ 9223372036854775807) :
    Calls Try.prog 7 #[v, .int .u8 (a : Int), .string s] w fun r w' => r = .returned (.bool true) ∧ Below w.heap.size w w' := by
  obtain ⟨qa, qc, qb, qe, rfl, -, -, -, -⟩ := h.form
  have Pd := Lib.hid (Vr.new (w := w) h (Nat.le_refl _) 25)
  have HF := Lib.hid hf
  have BP : Hid (Below w.heap.size w (w.alloc (.cells #[.slice qa d.secs.length qc, .slice qb d.pend.length qe, .int .i64 d.left, .bool d.down] 25))) := Below.new1 _
  have dl1 := hf.left.1
  have dl2 := hf.left.2
  clear h hf
  go_enter Try.func7, Try.ntmps7
  go_wp2_with fail
  refine (sm _).mono ?_
  rintro r w1 ⟨rfl, b1⟩
  have Vd := Lib.hid (Pd.out.next b1)
  have BW1 := Lib.hid (chain BP.out b1)
  clear Pd BP b1
  have Pd := Lib.hid Vd.out
  have BP := Lib.hid BW1.out
  clear Vd
  obtain ⟨ad, cd, bd, ed, hBd, hDd⟩ := Pd.out.ex
  have xd0 := hBd.c0
  have xd1 := hBd.c1
  have xd2 := hBd.c2
  have xd3 := hBd.c3
  have xdl := hBd.lt
  have HDd := Lib.hid hDd
  clear hBd hDd
  go_wp2_with fail
  refine (right_x _ d _ HDd.out HF.out).mono ?_
  rintro r w2 ⟨rfl, b2⟩
  obtain ⟨okd, hok⟩ : ∃ x, okB d = x := ⟨_, rfl⟩
  rw [hok]
  have HOK := Lib.hid hok
  clear hok
  clear xd0 xd1 xd2 xd3 xdl HDd
  have Z2 : Hid (w1.heap.size ≤ w2.heap.size) := b2.size
  have Vd := Lib.hid (Pd.out.next b2)
  have BW2 : Hid (Below w.heap.size w w2) := chain BP.out b2
  clear BP
  clear Pd
  have NE_0_2 : Hid (w.heap.size < w2.heap.size) := Nat.lt_of_lt_of_le (Vd.out.lt) (Nat.le_refl _)
  clear b2
  have Pd := Lib.hid Vd.out
  have BP := Lib.hid BW2.out
  clear Vd
  obtain ⟨ad, cd, bd, ed, hBd, hDd⟩ := Pd.out.ex
  have xd0 := hBd.c0
  have xd1 := hBd.c1
  have xd2 := hBd.c2
  have xd3 := hBd.c3
  have xdl := hBd.lt
  have HDd := Lib.hid hDd
  clear hBd hDd
  cases okd with
  | false =>
    go_wp2_with fail
    go_ret
    exact ⟨rfl, BP.out⟩
  | true =>
    by_cases t1 : d.left = -1
    case neg =>
      have f1 : (d.left != -1) = true := by simpa using t1
      clear t1
      go_wp2_with fail
      go_ret
      exact ⟨rfl, BP.out⟩
    case pos =>
      have f1 : (d.left != -1) = false := by simpa using t1
      by_cases t2 : 16 < s.size
      case pos =>
        have f2 : 16 < (s.size : Int) := by omega
        clear t1
        go_wp2_with fail
        go_ret
        exact ⟨rfl, BP.out⟩
      case neg =>
        have f2 : ¬ 16 < (s.size : Int) := by omega
        obtain ⟨⟨hs1, hs2⟩, hck, hdn⟩ := ok_iff.1 HOK.out
        obtain ⟨⟨c1, c2, c3, -, -⟩, -, -, -⟩ := check_iff.1 hck
        obtain ⟨k, hk⟩ : ∃ k : Nat, (a : Int) % (d.secs.length : Int) = (k : Int) := ⟨a % d.secs.length, by omega⟩
        have kl : k < d.secs.length := by have := Int.emod_lt_of_pos (a : Int) (show (0 : Int) < (d.secs.length : Int) by omega); omega
        have k0 : (0 : Int) ≤ (k : Int) := by omega
        have k1' : (k : Int) < (d.secs.length : Int) := by omega
        have lp : (0 : Int) < (d.secs.length : Int) := by omega
        have ik : I64 (k : Int) := by unfold I64; omega
        have kk1 := check_write hck hdn ⟨k0, k1'⟩ (pad_size (by omega : s.size ≤ 16)) (show d.pend.length < 512 by omega)
        obtain ⟨d1, hd1⟩ : ∃ x : D, x = ⟨d.secs, d.pend ++ [((k : Int), pad s)], d.left, d.down⟩ := ⟨_, rfl⟩
        obtain ⟨d2, hd2⟩ : ∃ x : D, x = ⟨perf (perf d.secs d.pend) [((k : Int), pad s)], [], -1, false⟩ := ⟨_, rfl⟩
        obtain ⟨d3, hd3⟩ : ∃ x : D, x = ⟨perf d.secs d.pend, [], -1, false⟩ := ⟨_, rfl⟩
        obtain ⟨d4, hd4⟩ : ∃ x : D, x = ⟨perf d.secs d.pend, [((k : Int), pad s)], -1, false⟩ := ⟨_, rfl⟩
        have E1 : Hid (wrV d (k : Int) s = (d1, 0)) := by rw [hd1]; exact wr_ok hck hdn ⟨k0, k1'⟩ (by omega) (by omega)
        have g1 : checkB d1 = true := by rw [hd1]; exact kk1
        have n1 : d1.down = false := by rw [hd1]; exact hdn
        have m1' : d1.left = -1 := by rw [hd1]; exact t1
        have E2 : Hid (flV d1 = (d2, 0)) := by
          show _ = _
          rw [fl_ok g1 n1 (by omega), flush_none m1', hd2, hd1, perf_app]
        have E3 : Hid (flV d = (d3, 0)) := by
          show _ = _
          rw [fl_ok hck hdn (by omega), flush_none t1, hd3]
        have g3 : checkB d3 = true := by rw [hd3, ← flush_none t1]; exact check_flush hck (by omega)
        have n3 : d3.down = false := by rw [hd3]
        have s3 : d3.secs.length = d.secs.length := by rw [hd3]; exact perf_len _ _
        have p3 : d3.pend = [] := by rw [hd3]
        have E4 : Hid (wrV d3 (k : Int) s = (d4, 0)) := by
          show _ = _
          rw [wr_ok g3 n3 ⟨k0, by rw [s3]; exact k1'⟩ (by omega) (by rw [p3]; decide), hd3, hd4]
          rfl
        have g4 : checkB d4 = true := by
          have hz := check_write g3 n3 (a := (k : Int)) ⟨k0, by rw [s3]; exact k1'⟩ (pad_size (by omega : s.size ≤ 16)) (by rw [p3]; decide)
          rw [hd3] at hz
          rw [hd4]
          exact hz
        have n4 : d4.down = false := by rw [hd4]
        have m4 : d4.left = -1 := by rw [hd4]
        have E5 : Hid (flV d4 = (d2, 0)) := by
          show _ = _
          rw [fl_ok g4 n4 (by omega), flush_none m4, hd4, hd2]
        have g2 : checkB d2 = true := by
          have hz := check_flush g4 (by omega)
          rw [flush_none m4] at hz
          rw [hd2]
          rw [hd4] at hz
          exact hz
        have FD := Lib.hid (fit_right hck)
        have FD1 := Lib.hid (fit_right g1)
        have FD2 := Lib.hid (fit_right g2)
        have FD3 := Lib.hid (fit_right g3)
        have FD4 := Lib.hid (fit_right g4)
        have HK := Lib.hid hk
        clear hd1 hd2 hd3 hd4 g1 g2 g3 g4 n1 n3 n4 m1' m4 s3 p3 kk1 hck hdn t1
        clear xd0 xd1 xd2 xd3 xdl HDd
        obtain ⟨ad, cd, bd, ed, hBd, hDd⟩ := Pd.out.ex
        have xd0 := hBd.c0
        have xd1 := hBd.c1
        have xd2 := hBd.c2
        have xd3 := hBd.c3
        have xdl := hBd.lt
        have HDd := Lib.hid hDd
        clear hBd hDd
        have HC := Lib.hid (conv_d (ok.write _ d (k : Int) s _ HDd.out FD.out ik hs) E1.out)
        go_wp2_with fail
        refine HC.out.mono ?_
        rintro r w3 ⟨sa3, sc3, pa3, pc3, rfl, h3, b3⟩
        clear HC
        clear xd0 xd1 xd2 xd3 xdl HDd
        have Z3 : Hid (w2.heap.size ≤ w3.heap.size) := b3.size
        have Vd := Lib.hid (Pd.out.next b3)
        have BW3 : Hid (Below w.heap.size w w3) := chain BP.out b3
        clear BP
        clear Pd
        have NE_0_3 : Hid (w.heap.size < w3.heap.size) := Nat.lt_of_lt_of_le (Vd.out.lt) (Nat.le_refl _)
        have H3 := Lib.hid h3
        clear h3 b3
        have Pd := Lib.hid (Vd.out.next (Below.new1 (.cells #[(.slice sa3 (d1).secs.length sc3), (.slice pa3 (d1).pend.length pc3), .int .i64 d1.left, .bool d1.down] 25)))
        have Pb := Lib.hid (Vr.new (w := w) H3.out BW3.out.size 25)
        have BP : Hid (Below w.heap.size w (w3.alloc (.cells #[(.slice sa3 (d1).secs.length sc3), (.slice pa3 (d1).pend.length pc3), .int .i64 d1.left, .bool d1.down] 25))) := chain BW3.out (Below.new1 _)
        have zs3 : (w3.alloc (.cells #[(.slice sa3 (d1).secs.length sc3), (.slice pa3 (d1).pend.length pc3), .int .i64 d1.left, .bool d1.down] 25)).heap.size = w3.heap.size + 1 := by simp
        have ZS3 := Lib.hid zs3
        clear zs3
        clear Vd
        obtain ⟨ab, cb, bb, eb, hBb, hDb⟩ := Pb.out.ex
        have xb0 := hBb.c0
        have xb1 := hBb.c1
        have xb2 := hBb.c2
        have xb3 := hBb.c3
        have xbl := hBb.lt
        have HDb := Lib.hid hDb
        clear hBb hDb
        have HC := Lib.hid (conv_d (ok.flush _ d1  _ HDb.out FD1.out) E2.out)
        go_wp2_with fail
        refine HC.out.mono ?_
        rintro r w4 ⟨sa4, sc4, pa4, pc4, rfl, h4, b4⟩
        clear HC
        clear xb0 xb1 xb2 xb3 xbl HDb
        have Z4 : Hid ((w3.alloc (.cells #[(.slice sa3 (d1).secs.length sc3), (.slice pa3 (d1).pend.length pc3), .int .i64 d1.left, .bool d1.down] 25)).heap.size ≤ w4.heap.size) := b4.size
        have Vd := Lib.hid (Pd.out.next b4)
        have Vb := Lib.hid (Pb.out.next b4)
        have BW4 : Hid (Below w.heap.size w w4) := chain BP.out b4
        clear BP
        clear Pd Pb
        have NE_0_4 : Hid (w.heap.size < w4.heap.size) := Nat.lt_of_lt_of_le (Vd.out.lt) (Nat.le_refl _)
        have NE_3_4 : Hid (w3.heap.size < w4.heap.size) := Nat.lt_of_lt_of_le (Vb.out.lt) (Nat.le_refl _)
        have H4 := Lib.hid h4
        clear h4 b4
        have Pd := Lib.hid (Vd.out.next (Below.new1 (.cells #[(.slice sa4 (d2).secs.length sc4), (.slice pa4 (d2).pend.length pc4), .int .i64 d2.left, .bool d2.down] 25)))
        have Pb := Lib.hid (Vb.out.next (Below.new1 (.cells #[(.slice sa4 (d2).secs.length sc4), (.slice pa4 (d2).pend.length pc4), .int .i64 d2.left, .bool d2.down] 25)))
        have Pc := Lib.hid (Vr.new (w := w) H4.out BW4.out.size 25)
        have BP : Hid (Below w.heap.size w (w4.alloc (.cells #[(.slice sa4 (d2).secs.length sc4), (.slice pa4 (d2).pend.length pc4), .int .i64 d2.left, .bool d2.down] 25))) := chain BW4.out (Below.new1 _)
        have zs4 : (w4.alloc (.cells #[(.slice sa4 (d2).secs.length sc4), (.slice pa4 (d2).pend.length pc4), .int .i64 d2.left, .bool d2.down] 25)).heap.size = w4.heap.size + 1 := by simp
        have ZS4 := Lib.hid zs4
        clear zs4
        clear Vd Vb
        obtain ⟨ad, cd, bd, ed, hBd, hDd⟩ := Pd.out.ex
        have xd0 := hBd.c0
        have xd1 := hBd.c1
        have xd2 := hBd.c2
        have xd3 := hBd.c3
        have xdl := hBd.lt
        have HDd := Lib.hid hDd
        clear hBd hDd
        have HC := Lib.hid (conv_d (ok.flush _ d  _ HDd.out FD.out) E3.out)
        go_wp2_with fail
        refine HC.out.mono ?_
        rintro r w5 ⟨sa5, sc5, pa5, pc5, rfl, h5, b5⟩
        clear HC
        clear xd0 xd1 xd2 xd3 xdl HDd
        have Z5 : Hid ((w4.alloc (.cells #[(.slice sa4 (d2).secs.length sc4), (.slice pa4 (d2).pend.length pc4), .int .i64 d2.left, .bool d2.down] 25)).heap.size ≤ w5.heap.size) := b5.size
        have Vd := Lib.hid (Pd.out.next b5)
        have Vb := Lib.hid (Pb.out.next b5)
        have Vc := Lib.hid (Pc.out.next b5)
        have BW5 : Hid (Below w.heap.size w w5) := chain BP.out b5
        clear BP
        clear Pd Pb Pc
        have NE_0_5 : Hid (w.heap.size < w5.heap.size) := Nat.lt_of_lt_of_le (Vd.out.lt) (Nat.le_refl _)
        have NE_3_5 : Hid (w3.heap.size < w5.heap.size) := Nat.lt_of_lt_of_le (Vb.out.lt) (Nat.le_refl _)
        have NE_4_5 : Hid (w4.heap.size < w5.heap.size) := Nat.lt_of_lt_of_le (Vc.out.lt) (Nat.le_refl _)
        have H5 := Lib.hid h5
        clear h5 b5
        have Pd := Lib.hid (Vd.out.next (Below.new1 (.cells #[(.slice sa5 (d3).secs.length sc5), (.slice pa5 (d3).pend.length pc5), .int .i64 d3.left, .bool d3.down] 25)))
        have Pb := Lib.hid (Vb.out.next (Below.new1 (.cells #[(.slice sa5 (d3).secs.length sc5), (.slice pa5 (d3).pend.length pc5), .int .i64 d3.left, .bool d3.down] 25)))
        have Pc := Lib.hid (Vc.out.next (Below.new1 (.cells #[(.slice sa5 (d3).secs.length sc5), (.slice pa5 (d3).pend.length pc5), .int .i64 d3.left, .bool d3.down] 25)))
        have Pe := Lib.hid (Vr.new (w := w) H5.out BW5.out.size 25)
        have BP : Hid (Below w.heap.size w (w5.alloc (.cells #[(.slice sa5 (d3).secs.length sc5), (.slice pa5 (d3).pend.length pc5), .int .i64 d3.left, .bool d3.down] 25))) := chain BW5.out (Below.new1 _)
        have zs5 : (w5.alloc (.cells #[(.slice sa5 (d3).secs.length sc5), (.slice pa5 (d3).pend.length pc5), .int .i64 d3.left, .bool d3.down] 25)).heap.size = w5.heap.size + 1 := by simp
        have ZS5 := Lib.hid zs5
        clear zs5
        clear Vd Vb Vc
        obtain ⟨ae, ce, be, ee, hBe, hDe⟩ := Pe.out.ex
        have xe0 := hBe.c0
        have xe1 := hBe.c1
        have xe2 := hBe.c2
        have xe3 := hBe.c3
        have xel := hBe.lt
        have HDe := Lib.hid hDe
        clear hBe hDe
        have HC := Lib.hid (conv_d (ok.write _ d3 (k : Int) s _ HDe.out FD3.out ik hs) E4.out)
        go_wp2_with fail
        refine HC.out.mono ?_
        rintro r w6 ⟨sa6, sc6, pa6, pc6, rfl, h6, b6⟩
        clear HC
        clear xe0 xe1 xe2 xe3 xel HDe
        have Z6 : Hid ((w5.alloc (.cells #[(.slice sa5 (d3).secs.length sc5), (.slice pa5 (d3).pend.length pc5), .int .i64 d3.left, .bool d3.down] 25)).heap.size ≤ w6.heap.size) := b6.size
        have Vd := Lib.hid (Pd.out.next b6)
        have Vb := Lib.hid (Pb.out.next b6)
        have Vc := Lib.hid (Pc.out.next b6)
        have Ve := Lib.hid (Pe.out.next b6)
        have BW6 : Hid (Below w.heap.size w w6) := chain BP.out b6
        clear BP
        clear Pd Pb Pc Pe
        have NE_0_6 : Hid (w.heap.size < w6.heap.size) := Nat.lt_of_lt_of_le (Vd.out.lt) (Nat.le_refl _)
        have NE_3_6 : Hid (w3.heap.size < w6.heap.size) := Nat.lt_of_lt_of_le (Vb.out.lt) (Nat.le_refl _)
        have NE_4_6 : Hid (w4.heap.size < w6.heap.size) := Nat.lt_of_lt_of_le (Vc.out.lt) (Nat.le_refl _)
        have NE_5_6 : Hid (w5.heap.size < w6.heap.size) := Nat.lt_of_lt_of_le (Ve.out.lt) (Nat.le_refl _)
        have H6 := Lib.hid h6
        clear h6 b6
        have Pd := Lib.hid (Vd.out.next (Below.new1 (.cells #[(.slice sa6 (d4).secs.length sc6), (.slice pa6 (d4).pend.length pc6), .int .i64 d4.left, .bool d4.down] 25)))
        have Pb := Lib.hid (Vb.out.next (Below.new1 (.cells #[(.slice sa6 (d4).secs.length sc6), (.slice pa6 (d4).pend.length pc6), .int .i64 d4.left, .bool d4.down] 25)))
        have Pc := Lib.hid (Vc.out.next (Below.new1 (.cells #[(.slice sa6 (d4).secs.length sc6), (.slice pa6 (d4).pend.length pc6), .int .i64 d4.left, .bool d4.down] 25)))
        have Pe := Lib.hid (Ve.out.next (Below.new1 (.cells #[(.slice sa6 (d4).secs.length sc6), (.slice pa6 (d4).pend.length pc6), .int .i64 d4.left, .bool d4.down] 25)))
        have Pf := Lib.hid (Vr.new (w := w) H6.out BW6.out.size 25)
        have BP : Hid (Below w.heap.size w (w6.alloc (.cells #[(.slice sa6 (d4).secs.length sc6), (.slice pa6 (d4).pend.length pc6), .int .i64 d4.left, .bool d4.down] 25))) := chain BW6.out (Below.new1 _)
        have zs6 : (w6.alloc (.cells #[(.slice sa6 (d4).secs.length sc6), (.slice pa6 (d4).pend.length pc6), .int .i64 d4.left, .bool d4.down] 25)).heap.size = w6.heap.size + 1 := by simp
        have ZS6 := Lib.hid zs6
        clear zs6
        clear Vd Vb Vc Ve
        obtain ⟨af, cf, bf, ef, hBf, hDf⟩ := Pf.out.ex
        have xf0 := hBf.c0
        have xf1 := hBf.c1
        have xf2 := hBf.c2
        have xf3 := hBf.c3
        have xfl := hBf.lt
        have HDf := Lib.hid hDf
        clear hBf hDf
        have HC := Lib.hid (conv_d (ok.flush _ d4  _ HDf.out FD4.out) E5.out)
        go_wp2_with fail
        refine HC.out.mono ?_
        rintro r w7 ⟨sa7, sc7, pa7, pc7, rfl, h7, b7⟩
        clear HC
        clear xf0 xf1 xf2 xf3 xfl HDf
        have Z7 : Hid ((w6.alloc (.cells #[(.slice sa6 (d4).secs.length sc6), (.slice pa6 (d4).pend.length pc6), .int .i64 d4.left, .bool d4.down] 25)).heap.size ≤ w7.heap.size) := b7.size
        have Vd := Lib.hid (Pd.out.next b7)
        have Vb := Lib.hid (Pb.out.next b7)
        have Vc := Lib.hid (Pc.out.next b7)
        have Ve := Lib.hid (Pe.out.next b7)
        have Vf := Lib.hid (Pf.out.next b7)
        have BW7 : Hid (Below w.heap.size w w7) := chain BP.out b7
        clear BP
        clear Pd Pb Pc Pe Pf
        have NE_0_7 : Hid (w.heap.size < w7.heap.size) := Nat.lt_of_lt_of_le (Vd.out.lt) (Nat.le_refl _)
        have NE_3_7 : Hid (w3.heap.size < w7.heap.size) := Nat.lt_of_lt_of_le (Vb.out.lt) (Nat.le_refl _)
        have NE_4_7 : Hid (w4.heap.size < w7.heap.size) := Nat.lt_of_lt_of_le (Vc.out.lt) (Nat.le_refl _)
        have NE_5_7 : Hid (w5.heap.size < w7.heap.size) := Nat.lt_of_lt_of_le (Ve.out.lt) (Nat.le_refl _)
        have NE_6_7 : Hid (w6.heap.size < w7.heap.size) := Nat.lt_of_lt_of_le (Vf.out.lt) (Nat.le_refl _)
        have H7 := Lib.hid h7
        clear h7 b7
        have Pd := Lib.hid (Vd.out.next (Below.new1 (.cells #[(.slice sa7 (d2).secs.length sc7), (.slice pa7 (d2).pend.length pc7), .int .i64 d2.left, .bool d2.down] 25)))
        have Pb := Lib.hid (Vb.out.next (Below.new1 (.cells #[(.slice sa7 (d2).secs.length sc7), (.slice pa7 (d2).pend.length pc7), .int .i64 d2.left, .bool d2.down] 25)))
        have Pc := Lib.hid (Vc.out.next (Below.new1 (.cells #[(.slice sa7 (d2).secs.length sc7), (.slice pa7 (d2).pend.length pc7), .int .i64 d2.left, .bool d2.down] 25)))
        have Pe := Lib.hid (Ve.out.next (Below.new1 (.cells #[(.slice sa7 (d2).secs.length sc7), (.slice pa7 (d2).pend.length pc7), .int .i64 d2.left, .bool d2.down] 25)))
        have Pf := Lib.hid (Vf.out.next (Below.new1 (.cells #[(.slice sa7 (d2).secs.length sc7), (.slice pa7 (d2).pend.length pc7), .int .i64 d2.left, .bool d2.down] 25)))
        have Pg := Lib.hid (Vr.new (w := w) H7.out BW7.out.size 25)
        have BP : Hid (Below w.heap.size w (w7.alloc (.cells #[(.slice sa7 (d2).secs.length sc7), (.slice pa7 (d2).pend.length pc7), .int .i64 d2.left, .bool d2.down] 25))) := chain BW7.out (Below.new1 _)
        have zs7 : (w7.alloc (.cells #[(.slice sa7 (d2).secs.length sc7), (.slice pa7 (d2).pend.length pc7), .int .i64 d2.left, .bool d2.down] 25)).heap.size = w7.heap.size + 1 := by simp
        have ZS7 := Lib.hid zs7
        clear zs7
        clear Vd Vb Vc Ve Vf
        obtain ⟨ac, cc, bc, ec, hBc, hDc⟩ := Pc.out.ex
        have xc0 := hBc.c0
        have xc1 := hBc.c1
        have xc2 := hBc.c2
        have xc3 := hBc.c3
        have xcl := hBc.lt
        have HDc := Lib.hid hDc
        clear hBc hDc
        obtain ⟨ag, cg, bg, eg, hBg, hDg⟩ := Pg.out.ex
        have xg0 := hBg.c0
        have xg1 := hBg.c1
        have xg2 := hBg.c2
        have xg3 := hBg.c3
        have xgl := hBg.lt
        have HDg := Lib.hid hDg
        clear hBg hDg
        go_wp2_with fail
        refine (Same_x _ _ d2 _ HDc.out HDg.out FD2.out).mono ?_
        rintro r w8 ⟨rfl, b8⟩
        have BZ := Lib.hid (chain BP.out b8)
        clear b8
        go_wp2_with fail
        go_ret
        exact ⟨rfl, BZ.out⟩

end Go.Proofs.Ytcbeodhopimmlaa
