/-
  The examples (small).
-/
import Derived.Test.YtcbeodhopimmlaaLawB
namespace Go.Proofs.Ytcbeodhopimmlaa
open Go.RowKit Dk


set_option maxHeartbeats 25600000 in
set_option maxRecDepth 100000 in
theorem small_x (ok : DiskOk) (w : World) : Calls Try.prog 8 #[] w fun r w' => r = .returned (.bool true) ∧ Below w.heap.size w w' := by
  obtain ⟨F1, F2, F3, F4, F5, F6, G1, G2, G3, G4, G5⟩ := fit_k
  have i0 : I64 0 := by unfold I64; decide
  have i1 : I64 1 := by unfold I64; decide
  have i2 : I64 2 := by unfold I64; decide
  have DL4 : Hid (l4.down = true) := rfl
  go_enter Try.func8, Try.ntmps8
  have HC := Lib.hid (conv_d (ok.new 2 w i2) eq0)
  go_wp2_with fail
  refine HC.out.mono ?_
  rintro r w1 ⟨sa1, sc1, pa1, pc1, rfl, h1, b1⟩
  clear HC
  have BW1 : Hid (Below w.heap.size w w1) := b1
  have H1 := Lib.hid h1
  clear h1 b1
  have Pa := Lib.hid (Vr.new (w := w) H1.out BW1.out.size 25)
  have BP : Hid (Below w.heap.size w (w1.alloc (.cells #[(.slice sa1 (k1).secs.length sc1), (.slice pa1 (k1).pend.length pc1), .int .i64 k1.left, .bool k1.down] 25))) := chain BW1.out (Below.new1 _)
  have zs1 : (w1.alloc (.cells #[(.slice sa1 (k1).secs.length sc1), (.slice pa1 (k1).pend.length pc1), .int .i64 k1.left, .bool k1.down] 25)).heap.size = w1.heap.size + 1 := by simp
  have ZS1 := Lib.hid zs1
  clear zs1

  obtain ⟨aa, ca, ba, ea, hBa, hDa⟩ := Pa.out.ex
  have xa0 := hBa.c0
  have xa1 := hBa.c1
  have xa2 := hBa.c2
  have xa3 := hBa.c3
  have xal := hBa.lt
  have HDa := Lib.hid hDa
  clear hBa hDa
  have HC := Lib.hid (conv_d (ok.write _ k1 0 sAB _ HDa.out F1 i0 (by decide)) eq1)
  go_wp2_with fail
  refine HC.out.mono ?_
  rintro r w2 ⟨sa2, sc2, pa2, pc2, rfl, h2, b2⟩
  clear HC
  clear xa0 xa1 xa2 xa3 xal HDa
  have Z2 : Hid ((w1.alloc (.cells #[(.slice sa1 (k1).secs.length sc1), (.slice pa1 (k1).pend.length pc1), .int .i64 k1.left, .bool k1.down] 25)).heap.size ≤ w2.heap.size) := b2.size
  have Va := Lib.hid (Pa.out.next b2)
  have BW2 : Hid (Below w.heap.size w w2) := chain BP.out b2
  clear BP
  clear Pa
  have NE_1_2 : Hid (w1.heap.size < w2.heap.size) := Nat.lt_of_lt_of_le (Va.out.lt) (Nat.le_refl _)
  have H2 := Lib.hid h2
  clear h2 b2
  have Pa := Lib.hid (Va.out.next (Below.new1 (.cells #[(.slice sa2 (k2).secs.length sc2), (.slice pa2 (k2).pend.length pc2), .int .i64 k2.left, .bool k2.down] 25)))
  have Pb := Lib.hid (Vr.new (w := w) H2.out BW2.out.size 25)
  have BP : Hid (Below w.heap.size w (w2.alloc (.cells #[(.slice sa2 (k2).secs.length sc2), (.slice pa2 (k2).pend.length pc2), .int .i64 k2.left, .bool k2.down] 25))) := chain BW2.out (Below.new1 _)
  have zs2 : (w2.alloc (.cells #[(.slice sa2 (k2).secs.length sc2), (.slice pa2 (k2).pend.length pc2), .int .i64 k2.left, .bool k2.down] 25)).heap.size = w2.heap.size + 1 := by simp
  have ZS2 := Lib.hid zs2
  clear zs2
  clear Va
  obtain ⟨ab, cb, bb, eb, hBb, hDb⟩ := Pb.out.ex
  have xb0 := hBb.c0
  have xb1 := hBb.c1
  have xb2 := hBb.c2
  have xb3 := hBb.c3
  have xbl := hBb.lt
  have HDb := Lib.hid hDb
  clear hBb hDb
  have HC := Lib.hid (conv_d (ok.flush _ k2  _ HDb.out F2) eq2)
  go_wp2_with fail
  refine HC.out.mono ?_
  rintro r w3 ⟨sa3, sc3, pa3, pc3, rfl, h3, b3⟩
  clear HC
  clear xb0 xb1 xb2 xb3 xbl HDb
  have Z3 : Hid ((w2.alloc (.cells #[(.slice sa2 (k2).secs.length sc2), (.slice pa2 (k2).pend.length pc2), .int .i64 k2.left, .bool k2.down] 25)).heap.size ≤ w3.heap.size) := b3.size
  have Va := Lib.hid (Pa.out.next b3)
  have Vb := Lib.hid (Pb.out.next b3)
  have BW3 : Hid (Below w.heap.size w w3) := chain BP.out b3
  clear BP
  clear Pa Pb
  have NE_1_3 : Hid (w1.heap.size < w3.heap.size) := Nat.lt_of_lt_of_le (Va.out.lt) (Nat.le_refl _)
  have NE_2_3 : Hid (w2.heap.size < w3.heap.size) := Nat.lt_of_lt_of_le (Vb.out.lt) (Nat.le_refl _)
  have H3 := Lib.hid h3
  clear h3 b3
  have Pa := Lib.hid (Va.out.next (Below.new1 (.cells #[(.slice sa3 (k3).secs.length sc3), (.slice pa3 (k3).pend.length pc3), .int .i64 k3.left, .bool k3.down] 25)))
  have Pb := Lib.hid (Vb.out.next (Below.new1 (.cells #[(.slice sa3 (k3).secs.length sc3), (.slice pa3 (k3).pend.length pc3), .int .i64 k3.left, .bool k3.down] 25)))
  have Pc := Lib.hid (Vr.new (w := w) H3.out BW3.out.size 25)
  have BP : Hid (Below w.heap.size w (w3.alloc (.cells #[(.slice sa3 (k3).secs.length sc3), (.slice pa3 (k3).pend.length pc3), .int .i64 k3.left, .bool k3.down] 25))) := chain BW3.out (Below.new1 _)
  have zs3 : (w3.alloc (.cells #[(.slice sa3 (k3).secs.length sc3), (.slice pa3 (k3).pend.length pc3), .int .i64 k3.left, .bool k3.down] 25)).heap.size = w3.heap.size + 1 := by simp
  have ZS3 := Lib.hid zs3
  clear zs3
  clear Va Vb
  obtain ⟨ac, cc, bc, ec, hBc, hDc⟩ := Pc.out.ex
  have xc0 := hBc.c0
  have xc1 := hBc.c1
  have xc2 := hBc.c2
  have xc3 := hBc.c3
  have xcl := hBc.lt
  have HDc := Lib.hid hDc
  clear hBc hDc
  have HC := Lib.hid (conv_d (ok.write _ k3 0 sX _ HDc.out F3 i0 (by decide)) eq3)
  go_wp2_with fail
  refine HC.out.mono ?_
  rintro r w4 ⟨sa4, sc4, pa4, pc4, rfl, h4, b4⟩
  clear HC
  clear xc0 xc1 xc2 xc3 xcl HDc
  have Z4 : Hid ((w3.alloc (.cells #[(.slice sa3 (k3).secs.length sc3), (.slice pa3 (k3).pend.length pc3), .int .i64 k3.left, .bool k3.down] 25)).heap.size ≤ w4.heap.size) := b4.size
  have Va := Lib.hid (Pa.out.next b4)
  have Vb := Lib.hid (Pb.out.next b4)
  have Vc := Lib.hid (Pc.out.next b4)
  have BW4 : Hid (Below w.heap.size w w4) := chain BP.out b4
  clear BP
  clear Pa Pb Pc
  have NE_1_4 : Hid (w1.heap.size < w4.heap.size) := Nat.lt_of_lt_of_le (Va.out.lt) (Nat.le_refl _)
  have NE_2_4 : Hid (w2.heap.size < w4.heap.size) := Nat.lt_of_lt_of_le (Vb.out.lt) (Nat.le_refl _)
  have NE_3_4 : Hid (w3.heap.size < w4.heap.size) := Nat.lt_of_lt_of_le (Vc.out.lt) (Nat.le_refl _)
  have H4 := Lib.hid h4
  clear h4 b4
  have Pa := Lib.hid (Va.out.next (Below.new1 (.cells #[(.slice sa4 (k4).secs.length sc4), (.slice pa4 (k4).pend.length pc4), .int .i64 k4.left, .bool k4.down] 25)))
  have Pb := Lib.hid (Vb.out.next (Below.new1 (.cells #[(.slice sa4 (k4).secs.length sc4), (.slice pa4 (k4).pend.length pc4), .int .i64 k4.left, .bool k4.down] 25)))
  have Pc := Lib.hid (Vc.out.next (Below.new1 (.cells #[(.slice sa4 (k4).secs.length sc4), (.slice pa4 (k4).pend.length pc4), .int .i64 k4.left, .bool k4.down] 25)))
  have Pd := Lib.hid (Vr.new (w := w) H4.out BW4.out.size 25)
  have BP : Hid (Below w.heap.size w (w4.alloc (.cells #[(.slice sa4 (k4).secs.length sc4), (.slice pa4 (k4).pend.length pc4), .int .i64 k4.left, .bool k4.down] 25))) := chain BW4.out (Below.new1 _)
  have zs4 : (w4.alloc (.cells #[(.slice sa4 (k4).secs.length sc4), (.slice pa4 (k4).pend.length pc4), .int .i64 k4.left, .bool k4.down] 25)).heap.size = w4.heap.size + 1 := by simp
  have ZS4 := Lib.hid zs4
  clear zs4
  clear Va Vb Vc
  obtain ⟨ad, cd, bd, ed, hBd, hDd⟩ := Pd.out.ex
  have xd0 := hBd.c0
  have xd1 := hBd.c1
  have xd2 := hBd.c2
  have xd3 := hBd.c3
  have xdl := hBd.lt
  have HDd := Lib.hid hDd
  clear hBd hDd
  have HC := Lib.hid (conv_d (ok.cut _ k4  _ HDd.out F4) eq4)
  go_wp2_with fail
  refine HC.out.mono ?_
  rintro r w5 ⟨sa5, sc5, pa5, pc5, rfl, h5, b5⟩
  clear HC
  clear xd0 xd1 xd2 xd3 xdl HDd
  have Z5 : Hid ((w4.alloc (.cells #[(.slice sa4 (k4).secs.length sc4), (.slice pa4 (k4).pend.length pc4), .int .i64 k4.left, .bool k4.down] 25)).heap.size ≤ w5.heap.size) := b5.size
  have Va := Lib.hid (Pa.out.next b5)
  have Vb := Lib.hid (Pb.out.next b5)
  have Vc := Lib.hid (Pc.out.next b5)
  have Vd := Lib.hid (Pd.out.next b5)
  have BW5 : Hid (Below w.heap.size w w5) := chain BP.out b5
  clear BP
  clear Pa Pb Pc Pd
  have NE_1_5 : Hid (w1.heap.size < w5.heap.size) := Nat.lt_of_lt_of_le (Va.out.lt) (Nat.le_refl _)
  have NE_2_5 : Hid (w2.heap.size < w5.heap.size) := Nat.lt_of_lt_of_le (Vb.out.lt) (Nat.le_refl _)
  have NE_3_5 : Hid (w3.heap.size < w5.heap.size) := Nat.lt_of_lt_of_le (Vc.out.lt) (Nat.le_refl _)
  have NE_4_5 : Hid (w4.heap.size < w5.heap.size) := Nat.lt_of_lt_of_le (Vd.out.lt) (Nat.le_refl _)
  have H5 := Lib.hid h5
  clear h5 b5
  have Pa := Lib.hid (Va.out.next (Below.new1 (.cells #[(.slice sa5 (k5).secs.length sc5), (.slice pa5 (k5).pend.length pc5), .int .i64 k5.left, .bool k5.down] 25)))
  have Pb := Lib.hid (Vb.out.next (Below.new1 (.cells #[(.slice sa5 (k5).secs.length sc5), (.slice pa5 (k5).pend.length pc5), .int .i64 k5.left, .bool k5.down] 25)))
  have Pc := Lib.hid (Vc.out.next (Below.new1 (.cells #[(.slice sa5 (k5).secs.length sc5), (.slice pa5 (k5).pend.length pc5), .int .i64 k5.left, .bool k5.down] 25)))
  have Pd := Lib.hid (Vd.out.next (Below.new1 (.cells #[(.slice sa5 (k5).secs.length sc5), (.slice pa5 (k5).pend.length pc5), .int .i64 k5.left, .bool k5.down] 25)))
  have Pf := Lib.hid (Vr.new (w := w) H5.out BW5.out.size 25)
  have BP : Hid (Below w.heap.size w (w5.alloc (.cells #[(.slice sa5 (k5).secs.length sc5), (.slice pa5 (k5).pend.length pc5), .int .i64 k5.left, .bool k5.down] 25))) := chain BW5.out (Below.new1 _)
  have zs5 : (w5.alloc (.cells #[(.slice sa5 (k5).secs.length sc5), (.slice pa5 (k5).pend.length pc5), .int .i64 k5.left, .bool k5.down] 25)).heap.size = w5.heap.size + 1 := by simp
  have ZS5 := Lib.hid zs5
  clear zs5
  clear Va Vb Vc Vd
  obtain ⟨af, cf, bf, ef, hBf, hDf⟩ := Pf.out.ex
  have xf0 := hBf.c0
  have xf1 := hBf.c1
  have xf2 := hBf.c2
  have xf3 := hBf.c3
  have xfl := hBf.lt
  have HDf := Lib.hid hDf
  clear hBf hDf
  have HC := Lib.hid (conv_d (ok.start _ k5  _ HDf.out F5) eq5)
  go_wp2_with fail
  refine HC.out.mono ?_
  rintro r w6 ⟨sa6, sc6, pa6, pc6, rfl, h6, b6⟩
  clear HC
  clear xf0 xf1 xf2 xf3 xfl HDf
  have Z6 : Hid ((w5.alloc (.cells #[(.slice sa5 (k5).secs.length sc5), (.slice pa5 (k5).pend.length pc5), .int .i64 k5.left, .bool k5.down] 25)).heap.size ≤ w6.heap.size) := b6.size
  have Va := Lib.hid (Pa.out.next b6)
  have Vb := Lib.hid (Pb.out.next b6)
  have Vc := Lib.hid (Pc.out.next b6)
  have Vd := Lib.hid (Pd.out.next b6)
  have Vf := Lib.hid (Pf.out.next b6)
  have BW6 : Hid (Below w.heap.size w w6) := chain BP.out b6
  clear BP
  clear Pa Pb Pc Pd Pf
  have NE_1_6 : Hid (w1.heap.size < w6.heap.size) := Nat.lt_of_lt_of_le (Va.out.lt) (Nat.le_refl _)
  have NE_2_6 : Hid (w2.heap.size < w6.heap.size) := Nat.lt_of_lt_of_le (Vb.out.lt) (Nat.le_refl _)
  have NE_3_6 : Hid (w3.heap.size < w6.heap.size) := Nat.lt_of_lt_of_le (Vc.out.lt) (Nat.le_refl _)
  have NE_4_6 : Hid (w4.heap.size < w6.heap.size) := Nat.lt_of_lt_of_le (Vd.out.lt) (Nat.le_refl _)
  have NE_5_6 : Hid (w5.heap.size < w6.heap.size) := Nat.lt_of_lt_of_le (Vf.out.lt) (Nat.le_refl _)
  have H6 := Lib.hid h6
  clear h6 b6
  have Pa := Lib.hid (Va.out.next (Below.new1 (.cells #[(.slice sa6 (k6).secs.length sc6), (.slice pa6 (k6).pend.length pc6), .int .i64 k6.left, .bool k6.down] 25)))
  have Pb := Lib.hid (Vb.out.next (Below.new1 (.cells #[(.slice sa6 (k6).secs.length sc6), (.slice pa6 (k6).pend.length pc6), .int .i64 k6.left, .bool k6.down] 25)))
  have Pc := Lib.hid (Vc.out.next (Below.new1 (.cells #[(.slice sa6 (k6).secs.length sc6), (.slice pa6 (k6).pend.length pc6), .int .i64 k6.left, .bool k6.down] 25)))
  have Pd := Lib.hid (Vd.out.next (Below.new1 (.cells #[(.slice sa6 (k6).secs.length sc6), (.slice pa6 (k6).pend.length pc6), .int .i64 k6.left, .bool k6.down] 25)))
  have Pf := Lib.hid (Vf.out.next (Below.new1 (.cells #[(.slice sa6 (k6).secs.length sc6), (.slice pa6 (k6).pend.length pc6), .int .i64 k6.left, .bool k6.down] 25)))
  have Pn := Lib.hid (Vr.new (w := w) H6.out BW6.out.size 25)
  have BP : Hid (Below w.heap.size w (w6.alloc (.cells #[(.slice sa6 (k6).secs.length sc6), (.slice pa6 (k6).pend.length pc6), .int .i64 k6.left, .bool k6.down] 25))) := chain BW6.out (Below.new1 _)
  have zs6 : (w6.alloc (.cells #[(.slice sa6 (k6).secs.length sc6), (.slice pa6 (k6).pend.length pc6), .int .i64 k6.left, .bool k6.down] 25)).heap.size = w6.heap.size + 1 := by simp
  have ZS6 := Lib.hid zs6
  clear zs6
  clear Va Vb Vc Vd Vf
  obtain ⟨an, cn, bn, en, hBn, hDn⟩ := Pn.out.ex
  have xn0 := hBn.c0
  have xn1 := hBn.c1
  have xn2 := hBn.c2
  have xn3 := hBn.c3
  have xnl := hBn.lt
  have HDn := Lib.hid hDn
  clear hBn hDn
  have HC := Lib.hid (conv_r (ok.read _ k6 0 _ HDn.out F6 i0) rd0)
  go_wp2_with fail
  refine HC.out.mono ?_
  rintro r w7 ⟨rfl, b7⟩
  clear HC
  clear xn0 xn1 xn2 xn3 xnl HDn
  have Z7 : Hid ((w6.alloc (.cells #[(.slice sa6 (k6).secs.length sc6), (.slice pa6 (k6).pend.length pc6), .int .i64 k6.left, .bool k6.down] 25)).heap.size ≤ w7.heap.size) := b7.size
  have Va := Lib.hid (Pa.out.next b7)
  have Vb := Lib.hid (Pb.out.next b7)
  have Vc := Lib.hid (Pc.out.next b7)
  have Vd := Lib.hid (Pd.out.next b7)
  have Vf := Lib.hid (Pf.out.next b7)
  have Vn := Lib.hid (Pn.out.next b7)
  have BW7 : Hid (Below w.heap.size w w7) := chain BP.out b7
  clear BP
  clear Pa Pb Pc Pd Pf Pn
  have NE_1_7 : Hid (w1.heap.size < w7.heap.size) := Nat.lt_of_lt_of_le (Va.out.lt) (Nat.le_refl _)
  have NE_2_7 : Hid (w2.heap.size < w7.heap.size) := Nat.lt_of_lt_of_le (Vb.out.lt) (Nat.le_refl _)
  have NE_3_7 : Hid (w3.heap.size < w7.heap.size) := Nat.lt_of_lt_of_le (Vc.out.lt) (Nat.le_refl _)
  have NE_4_7 : Hid (w4.heap.size < w7.heap.size) := Nat.lt_of_lt_of_le (Vd.out.lt) (Nat.le_refl _)
  have NE_5_7 : Hid (w5.heap.size < w7.heap.size) := Nat.lt_of_lt_of_le (Vf.out.lt) (Nat.le_refl _)
  have NE_6_7 : Hid (w6.heap.size < w7.heap.size) := Nat.lt_of_lt_of_le (Vn.out.lt) (Nat.le_refl _)
  clear b7
  have Pa := Lib.hid Va.out
  have Pb := Lib.hid Vb.out
  have Pc := Lib.hid Vc.out
  have Pd := Lib.hid Vd.out
  have Pf := Lib.hid Vf.out
  have Pn := Lib.hid Vn.out
  have BP := Lib.hid BW7.out
  clear Va Vb Vc Vd Vf Vn
  obtain ⟨aa, ca, ba, ea, hBa, hDa⟩ := Pa.out.ex
  have xa0 := hBa.c0
  have xa1 := hBa.c1
  have xa2 := hBa.c2
  have xa3 := hBa.c3
  have xal := hBa.lt
  have HDa := Lib.hid hDa
  clear hBa hDa
  have HC := Lib.hid (conv_d (ok.write _ k1 0 sN _ HDa.out F1 i0 (by decide)) eq6)
  go_wp2_with fail
  refine HC.out.mono ?_
  rintro r w8 ⟨sa8, sc8, pa8, pc8, rfl, h8, b8⟩
  clear HC
  clear xa0 xa1 xa2 xa3 xal HDa
  have Z8 : Hid (w7.heap.size ≤ w8.heap.size) := b8.size
  have Va := Lib.hid (Pa.out.next b8)
  have Vb := Lib.hid (Pb.out.next b8)
  have Vc := Lib.hid (Pc.out.next b8)
  have Vd := Lib.hid (Pd.out.next b8)
  have Vf := Lib.hid (Pf.out.next b8)
  have Vn := Lib.hid (Pn.out.next b8)
  have BW8 : Hid (Below w.heap.size w w8) := chain BP.out b8
  clear BP
  clear Pa Pb Pc Pd Pf Pn
  have NE_1_8 : Hid (w1.heap.size < w8.heap.size) := Nat.lt_of_lt_of_le (Va.out.lt) (Nat.le_refl _)
  have NE_2_8 : Hid (w2.heap.size < w8.heap.size) := Nat.lt_of_lt_of_le (Vb.out.lt) (Nat.le_refl _)
  have NE_3_8 : Hid (w3.heap.size < w8.heap.size) := Nat.lt_of_lt_of_le (Vc.out.lt) (Nat.le_refl _)
  have NE_4_8 : Hid (w4.heap.size < w8.heap.size) := Nat.lt_of_lt_of_le (Vd.out.lt) (Nat.le_refl _)
  have NE_5_8 : Hid (w5.heap.size < w8.heap.size) := Nat.lt_of_lt_of_le (Vf.out.lt) (Nat.le_refl _)
  have NE_6_8 : Hid (w6.heap.size < w8.heap.size) := Nat.lt_of_lt_of_le (Vn.out.lt) (Nat.le_refl _)
  have H8 := Lib.hid h8
  clear h8 b8
  obtain ⟨oa, oc, ob, oe, hO, -⟩ := Vb.out.ex
  have o0 := hO.c0
  have o1 := hO.c1
  have o2 := hO.c2
  have o3 := hO.c3
  have ol := hO.lt
  have of := hO.fz
  clear hO
  have Pa := Lib.hid (Va.out.putO Vb.out (by have q := NE_1_2.out; omega) (.slice sa8 (l1).secs.length sc8) (.slice pa8 (l1).pend.length pc8) l1.left l1.down)
  have Pc := Lib.hid (Vc.out.putO Vb.out (by have q := NE_2_3.out; omega) (.slice sa8 (l1).secs.length sc8) (.slice pa8 (l1).pend.length pc8) l1.left l1.down)
  have Pd := Lib.hid (Vd.out.putO Vb.out (by have q := NE_2_4.out; omega) (.slice sa8 (l1).secs.length sc8) (.slice pa8 (l1).pend.length pc8) l1.left l1.down)
  have Pf := Lib.hid (Vf.out.putO Vb.out (by have q := NE_2_5.out; omega) (.slice sa8 (l1).secs.length sc8) (.slice pa8 (l1).pend.length pc8) l1.left l1.down)
  have Pn := Lib.hid (Vn.out.putO Vb.out (by have q := NE_2_6.out; omega) (.slice sa8 (l1).secs.length sc8) (.slice pa8 (l1).pend.length pc8) l1.left l1.down)
  have Pb := Lib.hid (Vr.put Vb.out H8.out)
  have BP : Hid (Below w.heap.size w (put4 w8 (w2.heap.size) (.slice sa8 (l1).secs.length sc8) (.slice pa8 (l1).pend.length pc8) l1.left l1.down)) := below_put BW8.out Vb.out.lo _ _ _ _
  have zs8 : (put4 w8 (w2.heap.size) (.slice sa8 (l1).secs.length sc8) (.slice pa8 (l1).pend.length pc8) l1.left l1.down).heap.size = w8.heap.size := by simp
  have ZS8 := Lib.hid zs8
  clear zs8
  clear Va Vb Vc Vd Vf Vn
  obtain ⟨ab, cb, bb, eb, hBb, hDb⟩ := Pb.out.ex
  have xb0 := hBb.c0
  have xb1 := hBb.c1
  have xb2 := hBb.c2
  have xb3 := hBb.c3
  have xbl := hBb.lt
  have HDb := Lib.hid hDb
  clear hBb hDb
  have HC := Lib.hid (conv_d (ok.write _ l1 1 sY _ HDb.out G1 i1 (by decide)) eq7)
  go_wp2_with fail
  refine HC.out.mono ?_
  rintro r w9 ⟨sa9, sc9, pa9, pc9, rfl, h9, b9⟩
  clear HC
  clear xb0 xb1 xb2 xb3 xbl HDb
  clear o0 o1 o2 o3 ol of
  have Z9 : Hid ((put4 w8 (w2.heap.size) (.slice sa8 (l1).secs.length sc8) (.slice pa8 (l1).pend.length pc8) l1.left l1.down).heap.size ≤ w9.heap.size) := b9.size
  have Va := Lib.hid (Pa.out.next b9)
  have Vb := Lib.hid (Pb.out.next b9)
  have Vc := Lib.hid (Pc.out.next b9)
  have Vd := Lib.hid (Pd.out.next b9)
  have Vf := Lib.hid (Pf.out.next b9)
  have Vn := Lib.hid (Pn.out.next b9)
  have BW9 : Hid (Below w.heap.size w w9) := chain BP.out b9
  clear BP
  clear Pa Pb Pc Pd Pf Pn
  have NE_1_9 : Hid (w1.heap.size < w9.heap.size) := Nat.lt_of_lt_of_le (Va.out.lt) (Nat.le_refl _)
  have NE_2_9 : Hid (w2.heap.size < w9.heap.size) := Nat.lt_of_lt_of_le (Vb.out.lt) (Nat.le_refl _)
  have NE_3_9 : Hid (w3.heap.size < w9.heap.size) := Nat.lt_of_lt_of_le (Vc.out.lt) (Nat.le_refl _)
  have NE_4_9 : Hid (w4.heap.size < w9.heap.size) := Nat.lt_of_lt_of_le (Vd.out.lt) (Nat.le_refl _)
  have NE_5_9 : Hid (w5.heap.size < w9.heap.size) := Nat.lt_of_lt_of_le (Vf.out.lt) (Nat.le_refl _)
  have NE_6_9 : Hid (w6.heap.size < w9.heap.size) := Nat.lt_of_lt_of_le (Vn.out.lt) (Nat.le_refl _)
  have H9 := Lib.hid h9
  clear h9 b9
  obtain ⟨oa, oc, ob, oe, hO, -⟩ := Vc.out.ex
  have o0 := hO.c0
  have o1 := hO.c1
  have o2 := hO.c2
  have o3 := hO.c3
  have ol := hO.lt
  have of := hO.fz
  clear hO
  have Pa := Lib.hid (Va.out.putO Vc.out (by have q := NE_1_3.out; omega) (.slice sa9 (l2).secs.length sc9) (.slice pa9 (l2).pend.length pc9) l2.left l2.down)
  have Pb := Lib.hid (Vb.out.putO Vc.out (by have q := NE_2_3.out; omega) (.slice sa9 (l2).secs.length sc9) (.slice pa9 (l2).pend.length pc9) l2.left l2.down)
  have Pd := Lib.hid (Vd.out.putO Vc.out (by have q := NE_3_4.out; omega) (.slice sa9 (l2).secs.length sc9) (.slice pa9 (l2).pend.length pc9) l2.left l2.down)
  have Pf := Lib.hid (Vf.out.putO Vc.out (by have q := NE_3_5.out; omega) (.slice sa9 (l2).secs.length sc9) (.slice pa9 (l2).pend.length pc9) l2.left l2.down)
  have Pn := Lib.hid (Vn.out.putO Vc.out (by have q := NE_3_6.out; omega) (.slice sa9 (l2).secs.length sc9) (.slice pa9 (l2).pend.length pc9) l2.left l2.down)
  have Pc := Lib.hid (Vr.put Vc.out H9.out)
  have BP : Hid (Below w.heap.size w (put4 w9 (w3.heap.size) (.slice sa9 (l2).secs.length sc9) (.slice pa9 (l2).pend.length pc9) l2.left l2.down)) := below_put BW9.out Vc.out.lo _ _ _ _
  have zs9 : (put4 w9 (w3.heap.size) (.slice sa9 (l2).secs.length sc9) (.slice pa9 (l2).pend.length pc9) l2.left l2.down).heap.size = w9.heap.size := by simp
  have ZS9 := Lib.hid zs9
  clear zs9
  clear Va Vb Vc Vd Vf Vn
  obtain ⟨ac, cc, bc, ec, hBc, hDc⟩ := Pc.out.ex
  have xc0 := hBc.c0
  have xc1 := hBc.c1
  have xc2 := hBc.c2
  have xc3 := hBc.c3
  have xcl := hBc.lt
  have HDc := Lib.hid hDc
  clear hBc hDc
  have HC := Lib.hid (conv_d (ok.arm _ l2 0 _ HDc.out G2 i0) eq8)
  go_wp2_with fail
  refine HC.out.mono ?_
  rintro r w10 ⟨sa10, sc10, pa10, pc10, rfl, h10, b10⟩
  clear HC
  clear xc0 xc1 xc2 xc3 xcl HDc
  clear o0 o1 o2 o3 ol of
  have Z10 : Hid ((put4 w9 (w3.heap.size) (.slice sa9 (l2).secs.length sc9) (.slice pa9 (l2).pend.length pc9) l2.left l2.down).heap.size ≤ w10.heap.size) := b10.size
  have Va := Lib.hid (Pa.out.next b10)
  have Vb := Lib.hid (Pb.out.next b10)
  have Vc := Lib.hid (Pc.out.next b10)
  have Vd := Lib.hid (Pd.out.next b10)
  have Vf := Lib.hid (Pf.out.next b10)
  have Vn := Lib.hid (Pn.out.next b10)
  have BW10 : Hid (Below w.heap.size w w10) := chain BP.out b10
  clear BP
  clear Pa Pb Pc Pd Pf Pn
  have NE_1_10 : Hid (w1.heap.size < w10.heap.size) := Nat.lt_of_lt_of_le (Va.out.lt) (Nat.le_refl _)
  have NE_2_10 : Hid (w2.heap.size < w10.heap.size) := Nat.lt_of_lt_of_le (Vb.out.lt) (Nat.le_refl _)
  have NE_3_10 : Hid (w3.heap.size < w10.heap.size) := Nat.lt_of_lt_of_le (Vc.out.lt) (Nat.le_refl _)
  have NE_4_10 : Hid (w4.heap.size < w10.heap.size) := Nat.lt_of_lt_of_le (Vd.out.lt) (Nat.le_refl _)
  have NE_5_10 : Hid (w5.heap.size < w10.heap.size) := Nat.lt_of_lt_of_le (Vf.out.lt) (Nat.le_refl _)
  have NE_6_10 : Hid (w6.heap.size < w10.heap.size) := Nat.lt_of_lt_of_le (Vn.out.lt) (Nat.le_refl _)
  have H10 := Lib.hid h10
  clear h10 b10
  obtain ⟨oa, oc, ob, oe, hO, -⟩ := Vd.out.ex
  have o0 := hO.c0
  have o1 := hO.c1
  have o2 := hO.c2
  have o3 := hO.c3
  have ol := hO.lt
  have of := hO.fz
  clear hO
  have Pa := Lib.hid (Va.out.putO Vd.out (by have q := NE_1_4.out; omega) (.slice sa10 (l3).secs.length sc10) (.slice pa10 (l3).pend.length pc10) l3.left l3.down)
  have Pb := Lib.hid (Vb.out.putO Vd.out (by have q := NE_2_4.out; omega) (.slice sa10 (l3).secs.length sc10) (.slice pa10 (l3).pend.length pc10) l3.left l3.down)
  have Pc := Lib.hid (Vc.out.putO Vd.out (by have q := NE_3_4.out; omega) (.slice sa10 (l3).secs.length sc10) (.slice pa10 (l3).pend.length pc10) l3.left l3.down)
  have Pf := Lib.hid (Vf.out.putO Vd.out (by have q := NE_4_5.out; omega) (.slice sa10 (l3).secs.length sc10) (.slice pa10 (l3).pend.length pc10) l3.left l3.down)
  have Pn := Lib.hid (Vn.out.putO Vd.out (by have q := NE_4_6.out; omega) (.slice sa10 (l3).secs.length sc10) (.slice pa10 (l3).pend.length pc10) l3.left l3.down)
  have Pd := Lib.hid (Vr.put Vd.out H10.out)
  have BP : Hid (Below w.heap.size w (put4 w10 (w4.heap.size) (.slice sa10 (l3).secs.length sc10) (.slice pa10 (l3).pend.length pc10) l3.left l3.down)) := below_put BW10.out Vd.out.lo _ _ _ _
  have zs10 : (put4 w10 (w4.heap.size) (.slice sa10 (l3).secs.length sc10) (.slice pa10 (l3).pend.length pc10) l3.left l3.down).heap.size = w10.heap.size := by simp
  have ZS10 := Lib.hid zs10
  clear zs10
  clear Va Vb Vc Vd Vf Vn
  obtain ⟨ad, cd, bd, ed, hBd, hDd⟩ := Pd.out.ex
  have xd0 := hBd.c0
  have xd1 := hBd.c1
  have xd2 := hBd.c2
  have xd3 := hBd.c3
  have xdl := hBd.lt
  have HDd := Lib.hid hDd
  clear hBd hDd
  have HC := Lib.hid (conv_d (ok.flush _ l3  _ HDd.out G3) eq9)
  go_wp2_with fail
  refine HC.out.mono ?_
  rintro r w11 ⟨sa11, sc11, pa11, pc11, rfl, h11, b11⟩
  clear HC
  clear xd0 xd1 xd2 xd3 xdl HDd
  clear o0 o1 o2 o3 ol of
  have Z11 : Hid ((put4 w10 (w4.heap.size) (.slice sa10 (l3).secs.length sc10) (.slice pa10 (l3).pend.length pc10) l3.left l3.down).heap.size ≤ w11.heap.size) := b11.size
  have Va := Lib.hid (Pa.out.next b11)
  have Vb := Lib.hid (Pb.out.next b11)
  have Vc := Lib.hid (Pc.out.next b11)
  have Vd := Lib.hid (Pd.out.next b11)
  have Vf := Lib.hid (Pf.out.next b11)
  have Vn := Lib.hid (Pn.out.next b11)
  have BW11 : Hid (Below w.heap.size w w11) := chain BP.out b11
  clear BP
  clear Pa Pb Pc Pd Pf Pn
  have NE_1_11 : Hid (w1.heap.size < w11.heap.size) := Nat.lt_of_lt_of_le (Va.out.lt) (Nat.le_refl _)
  have NE_2_11 : Hid (w2.heap.size < w11.heap.size) := Nat.lt_of_lt_of_le (Vb.out.lt) (Nat.le_refl _)
  have NE_3_11 : Hid (w3.heap.size < w11.heap.size) := Nat.lt_of_lt_of_le (Vc.out.lt) (Nat.le_refl _)
  have NE_4_11 : Hid (w4.heap.size < w11.heap.size) := Nat.lt_of_lt_of_le (Vd.out.lt) (Nat.le_refl _)
  have NE_5_11 : Hid (w5.heap.size < w11.heap.size) := Nat.lt_of_lt_of_le (Vf.out.lt) (Nat.le_refl _)
  have NE_6_11 : Hid (w6.heap.size < w11.heap.size) := Nat.lt_of_lt_of_le (Vn.out.lt) (Nat.le_refl _)
  have H11 := Lib.hid h11
  clear h11 b11
  obtain ⟨oa, oc, ob, oe, hO, -⟩ := Vf.out.ex
  have o0 := hO.c0
  have o1 := hO.c1
  have o2 := hO.c2
  have o3 := hO.c3
  have ol := hO.lt
  have of := hO.fz
  clear hO
  have Pa := Lib.hid (Va.out.putO Vf.out (by have q := NE_1_5.out; omega) (.slice sa11 (l4).secs.length sc11) (.slice pa11 (l4).pend.length pc11) l4.left l4.down)
  have Pb := Lib.hid (Vb.out.putO Vf.out (by have q := NE_2_5.out; omega) (.slice sa11 (l4).secs.length sc11) (.slice pa11 (l4).pend.length pc11) l4.left l4.down)
  have Pc := Lib.hid (Vc.out.putO Vf.out (by have q := NE_3_5.out; omega) (.slice sa11 (l4).secs.length sc11) (.slice pa11 (l4).pend.length pc11) l4.left l4.down)
  have Pd := Lib.hid (Vd.out.putO Vf.out (by have q := NE_4_5.out; omega) (.slice sa11 (l4).secs.length sc11) (.slice pa11 (l4).pend.length pc11) l4.left l4.down)
  have Pn := Lib.hid (Vn.out.putO Vf.out (by have q := NE_5_6.out; omega) (.slice sa11 (l4).secs.length sc11) (.slice pa11 (l4).pend.length pc11) l4.left l4.down)
  have Pf := Lib.hid (Vr.put Vf.out H11.out)
  have BP : Hid (Below w.heap.size w (put4 w11 (w5.heap.size) (.slice sa11 (l4).secs.length sc11) (.slice pa11 (l4).pend.length pc11) l4.left l4.down)) := below_put BW11.out Vf.out.lo _ _ _ _
  have zs11 : (put4 w11 (w5.heap.size) (.slice sa11 (l4).secs.length sc11) (.slice pa11 (l4).pend.length pc11) l4.left l4.down).heap.size = w11.heap.size := by simp
  have ZS11 := Lib.hid zs11
  clear zs11
  clear Va Vb Vc Vd Vf Vn
  obtain ⟨af, cf, bf, ef, hBf, hDf⟩ := Pf.out.ex
  have xf0 := hBf.c0
  have xf1 := hBf.c1
  have xf2 := hBf.c2
  have xf3 := hBf.c3
  have xfl := hBf.lt
  have HDf := Lib.hid hDf
  clear hBf hDf
  have HC := Lib.hid (conv_d (ok.start _ l4  _ HDf.out G4) eq10)
  go_wp2_with fail
  refine HC.out.mono ?_
  rintro r w12 ⟨sa12, sc12, pa12, pc12, rfl, h12, b12⟩
  clear HC
  clear xf0 xf1 xf2 xf3 xfl HDf
  clear o0 o1 o2 o3 ol of
  have Z12 : Hid ((put4 w11 (w5.heap.size) (.slice sa11 (l4).secs.length sc11) (.slice pa11 (l4).pend.length pc11) l4.left l4.down).heap.size ≤ w12.heap.size) := b12.size
  have Va := Lib.hid (Pa.out.next b12)
  have Vb := Lib.hid (Pb.out.next b12)
  have Vc := Lib.hid (Pc.out.next b12)
  have Vd := Lib.hid (Pd.out.next b12)
  have Vf := Lib.hid (Pf.out.next b12)
  have Vn := Lib.hid (Pn.out.next b12)
  have BW12 : Hid (Below w.heap.size w w12) := chain BP.out b12
  clear BP
  clear Pa Pb Pc Pd Pf Pn
  have NE_1_12 : Hid (w1.heap.size < w12.heap.size) := Nat.lt_of_lt_of_le (Va.out.lt) (Nat.le_refl _)
  have NE_2_12 : Hid (w2.heap.size < w12.heap.size) := Nat.lt_of_lt_of_le (Vb.out.lt) (Nat.le_refl _)
  have NE_3_12 : Hid (w3.heap.size < w12.heap.size) := Nat.lt_of_lt_of_le (Vc.out.lt) (Nat.le_refl _)
  have NE_4_12 : Hid (w4.heap.size < w12.heap.size) := Nat.lt_of_lt_of_le (Vd.out.lt) (Nat.le_refl _)
  have NE_5_12 : Hid (w5.heap.size < w12.heap.size) := Nat.lt_of_lt_of_le (Vf.out.lt) (Nat.le_refl _)
  have NE_6_12 : Hid (w6.heap.size < w12.heap.size) := Nat.lt_of_lt_of_le (Vn.out.lt) (Nat.le_refl _)
  have H12 := Lib.hid h12
  clear h12 b12
  obtain ⟨oa, oc, ob, oe, hO, -⟩ := Vn.out.ex
  have o0 := hO.c0
  have o1 := hO.c1
  have o2 := hO.c2
  have o3 := hO.c3
  have ol := hO.lt
  have of := hO.fz
  clear hO
  have Pa := Lib.hid (Va.out.putO Vn.out (by have q := NE_1_6.out; omega) (.slice sa12 (l5).secs.length sc12) (.slice pa12 (l5).pend.length pc12) l5.left l5.down)
  have Pb := Lib.hid (Vb.out.putO Vn.out (by have q := NE_2_6.out; omega) (.slice sa12 (l5).secs.length sc12) (.slice pa12 (l5).pend.length pc12) l5.left l5.down)
  have Pc := Lib.hid (Vc.out.putO Vn.out (by have q := NE_3_6.out; omega) (.slice sa12 (l5).secs.length sc12) (.slice pa12 (l5).pend.length pc12) l5.left l5.down)
  have Pd := Lib.hid (Vd.out.putO Vn.out (by have q := NE_4_6.out; omega) (.slice sa12 (l5).secs.length sc12) (.slice pa12 (l5).pend.length pc12) l5.left l5.down)
  have Pf := Lib.hid (Vf.out.putO Vn.out (by have q := NE_5_6.out; omega) (.slice sa12 (l5).secs.length sc12) (.slice pa12 (l5).pend.length pc12) l5.left l5.down)
  have Pn := Lib.hid (Vr.put Vn.out H12.out)
  have BP : Hid (Below w.heap.size w (put4 w12 (w6.heap.size) (.slice sa12 (l5).secs.length sc12) (.slice pa12 (l5).pend.length pc12) l5.left l5.down)) := below_put BW12.out Vn.out.lo _ _ _ _
  have zs12 : (put4 w12 (w6.heap.size) (.slice sa12 (l5).secs.length sc12) (.slice pa12 (l5).pend.length pc12) l5.left l5.down).heap.size = w12.heap.size := by simp
  have ZS12 := Lib.hid zs12
  clear zs12
  clear Va Vb Vc Vd Vf Vn
  obtain ⟨an, cn, bn, en, hBn, hDn⟩ := Pn.out.ex
  have xn0 := hBn.c0
  have xn1 := hBn.c1
  have xn2 := hBn.c2
  have xn3 := hBn.c3
  have xnl := hBn.lt
  have HDn := Lib.hid hDn
  clear hBn hDn
  have HC := Lib.hid (conv_r (ok.read _ l5 0 _ HDn.out G5 i0) rd1)
  go_wp2_with fail
  refine HC.out.mono ?_
  rintro r w13 ⟨rfl, b13⟩
  clear HC
  clear xn0 xn1 xn2 xn3 xnl HDn
  clear o0 o1 o2 o3 ol of
  have Z13 : Hid ((put4 w12 (w6.heap.size) (.slice sa12 (l5).secs.length sc12) (.slice pa12 (l5).pend.length pc12) l5.left l5.down).heap.size ≤ w13.heap.size) := b13.size
  have Va := Lib.hid (Pa.out.next b13)
  have Vb := Lib.hid (Pb.out.next b13)
  have Vc := Lib.hid (Pc.out.next b13)
  have Vd := Lib.hid (Pd.out.next b13)
  have Vf := Lib.hid (Pf.out.next b13)
  have Vn := Lib.hid (Pn.out.next b13)
  have BW13 : Hid (Below w.heap.size w w13) := chain BP.out b13
  clear BP
  clear Pa Pb Pc Pd Pf Pn
  have NE_1_13 : Hid (w1.heap.size < w13.heap.size) := Nat.lt_of_lt_of_le (Va.out.lt) (Nat.le_refl _)
  have NE_2_13 : Hid (w2.heap.size < w13.heap.size) := Nat.lt_of_lt_of_le (Vb.out.lt) (Nat.le_refl _)
  have NE_3_13 : Hid (w3.heap.size < w13.heap.size) := Nat.lt_of_lt_of_le (Vc.out.lt) (Nat.le_refl _)
  have NE_4_13 : Hid (w4.heap.size < w13.heap.size) := Nat.lt_of_lt_of_le (Vd.out.lt) (Nat.le_refl _)
  have NE_5_13 : Hid (w5.heap.size < w13.heap.size) := Nat.lt_of_lt_of_le (Vf.out.lt) (Nat.le_refl _)
  have NE_6_13 : Hid (w6.heap.size < w13.heap.size) := Nat.lt_of_lt_of_le (Vn.out.lt) (Nat.le_refl _)
  clear b13
  have Pa := Lib.hid Va.out
  have Pb := Lib.hid Vb.out
  have Pc := Lib.hid Vc.out
  have Pd := Lib.hid Vd.out
  have Pf := Lib.hid Vf.out
  have Pn := Lib.hid Vn.out
  have BP := Lib.hid BW13.out
  clear Va Vb Vc Vd Vf Vn
  obtain ⟨an, cn, bn, en, hBn, hDn⟩ := Pn.out.ex
  have xn0 := hBn.c0
  have xn1 := hBn.c1
  have xn2 := hBn.c2
  have xn3 := hBn.c3
  have xnl := hBn.lt
  have HDn := Lib.hid hDn
  clear hBn hDn
  have HC := Lib.hid (conv_r (ok.read _ l5 1 _ HDn.out G5 i1) rd2)
  go_wp2_with fail
  refine HC.out.mono ?_
  rintro r w14 ⟨rfl, b14⟩
  clear HC
  clear xn0 xn1 xn2 xn3 xnl HDn
  have Z14 : Hid (w13.heap.size ≤ w14.heap.size) := b14.size
  have Va := Lib.hid (Pa.out.next b14)
  have Vb := Lib.hid (Pb.out.next b14)
  have Vc := Lib.hid (Pc.out.next b14)
  have Vd := Lib.hid (Pd.out.next b14)
  have Vf := Lib.hid (Pf.out.next b14)
  have Vn := Lib.hid (Pn.out.next b14)
  have BW14 : Hid (Below w.heap.size w w14) := chain BP.out b14
  clear BP
  clear Pa Pb Pc Pd Pf Pn
  have NE_1_14 : Hid (w1.heap.size < w14.heap.size) := Nat.lt_of_lt_of_le (Va.out.lt) (Nat.le_refl _)
  have NE_2_14 : Hid (w2.heap.size < w14.heap.size) := Nat.lt_of_lt_of_le (Vb.out.lt) (Nat.le_refl _)
  have NE_3_14 : Hid (w3.heap.size < w14.heap.size) := Nat.lt_of_lt_of_le (Vc.out.lt) (Nat.le_refl _)
  have NE_4_14 : Hid (w4.heap.size < w14.heap.size) := Nat.lt_of_lt_of_le (Vd.out.lt) (Nat.le_refl _)
  have NE_5_14 : Hid (w5.heap.size < w14.heap.size) := Nat.lt_of_lt_of_le (Vf.out.lt) (Nat.le_refl _)
  have NE_6_14 : Hid (w6.heap.size < w14.heap.size) := Nat.lt_of_lt_of_le (Vn.out.lt) (Nat.le_refl _)
  clear b14
  have Pa := Lib.hid Va.out
  have Pb := Lib.hid Vb.out
  have Pc := Lib.hid Vc.out
  have Pd := Lib.hid Vd.out
  have Pf := Lib.hid Vf.out
  have Pn := Lib.hid Vn.out
  have BP := Lib.hid BW14.out
  clear Va Vb Vc Vd Vf Vn
  obtain ⟨af, cf, bf, ef, hBf, hDf⟩ := Pf.out.ex
  have xf0 := hBf.c0
  have xf1 := hBf.c1
  have xf2 := hBf.c2
  have xf3 := hBf.c3
  have xfl := hBf.lt
  have HDf := Lib.hid hDf
  clear hBf hDf
  have HC := Lib.hid (conv_r (ok.read _ l4 0 _ HDf.out G4 i0) rd3)
  go_wp2_with fail
  refine HC.out.mono ?_
  rintro r w15 ⟨rfl, b15⟩
  clear HC
  clear xf0 xf1 xf2 xf3 xfl HDf
  have Z15 : Hid (w14.heap.size ≤ w15.heap.size) := b15.size
  have Va := Lib.hid (Pa.out.next b15)
  have Vb := Lib.hid (Pb.out.next b15)
  have Vc := Lib.hid (Pc.out.next b15)
  have Vd := Lib.hid (Pd.out.next b15)
  have Vf := Lib.hid (Pf.out.next b15)
  have Vn := Lib.hid (Pn.out.next b15)
  have BW15 : Hid (Below w.heap.size w w15) := chain BP.out b15
  clear BP
  clear Pa Pb Pc Pd Pf Pn
  have NE_1_15 : Hid (w1.heap.size < w15.heap.size) := Nat.lt_of_lt_of_le (Va.out.lt) (Nat.le_refl _)
  have NE_2_15 : Hid (w2.heap.size < w15.heap.size) := Nat.lt_of_lt_of_le (Vb.out.lt) (Nat.le_refl _)
  have NE_3_15 : Hid (w3.heap.size < w15.heap.size) := Nat.lt_of_lt_of_le (Vc.out.lt) (Nat.le_refl _)
  have NE_4_15 : Hid (w4.heap.size < w15.heap.size) := Nat.lt_of_lt_of_le (Vd.out.lt) (Nat.le_refl _)
  have NE_5_15 : Hid (w5.heap.size < w15.heap.size) := Nat.lt_of_lt_of_le (Vf.out.lt) (Nat.le_refl _)
  have NE_6_15 : Hid (w6.heap.size < w15.heap.size) := Nat.lt_of_lt_of_le (Vn.out.lt) (Nat.le_refl _)
  clear b15
  have Pa := Lib.hid Va.out
  have Pb := Lib.hid Vb.out
  have Pc := Lib.hid Vc.out
  have Pd := Lib.hid Vd.out
  have Pf := Lib.hid Vf.out
  have Pn := Lib.hid Vn.out
  have BP := Lib.hid BW15.out
  clear Va Vb Vc Vd Vf Vn
  obtain ⟨an, cn, bn, en, hBn, hDn⟩ := Pn.out.ex
  have xn0 := hBn.c0
  have xn1 := hBn.c1
  have xn2 := hBn.c2
  have xn3 := hBn.c3
  have xnl := hBn.lt
  have HDn := Lib.hid hDn
  clear hBn hDn
  have HC := Lib.hid (conv_d (ok.start _ l5  _ HDn.out G5) eq11)
  go_wp2_with fail
  refine HC.out.mono ?_
  rintro r w16 ⟨sa16, sc16, pa16, pc16, rfl, h16, b16⟩
  clear HC
  clear xn0 xn1 xn2 xn3 xnl HDn
  have Z16 : Hid (w15.heap.size ≤ w16.heap.size) := b16.size
  have Va := Lib.hid (Pa.out.next b16)
  have Vb := Lib.hid (Pb.out.next b16)
  have Vc := Lib.hid (Pc.out.next b16)
  have Vd := Lib.hid (Pd.out.next b16)
  have Vf := Lib.hid (Pf.out.next b16)
  have Vn := Lib.hid (Pn.out.next b16)
  have BW16 : Hid (Below w.heap.size w w16) := chain BP.out b16
  clear BP
  clear Pa Pb Pc Pd Pf Pn
  have NE_1_16 : Hid (w1.heap.size < w16.heap.size) := Nat.lt_of_lt_of_le (Va.out.lt) (Nat.le_refl _)
  have NE_2_16 : Hid (w2.heap.size < w16.heap.size) := Nat.lt_of_lt_of_le (Vb.out.lt) (Nat.le_refl _)
  have NE_3_16 : Hid (w3.heap.size < w16.heap.size) := Nat.lt_of_lt_of_le (Vc.out.lt) (Nat.le_refl _)
  have NE_4_16 : Hid (w4.heap.size < w16.heap.size) := Nat.lt_of_lt_of_le (Vd.out.lt) (Nat.le_refl _)
  have NE_5_16 : Hid (w5.heap.size < w16.heap.size) := Nat.lt_of_lt_of_le (Vf.out.lt) (Nat.le_refl _)
  have NE_6_16 : Hid (w6.heap.size < w16.heap.size) := Nat.lt_of_lt_of_le (Vn.out.lt) (Nat.le_refl _)
  have H16 := Lib.hid h16
  clear h16 b16
  have Pa := Lib.hid (Va.out.next (Below.new1 (.cells #[(.slice sa16 (D0).secs.length sc16), (.slice pa16 (D0).pend.length pc16), .int .i64 D0.left, .bool D0.down] 25)))
  have Pb := Lib.hid (Vb.out.next (Below.new1 (.cells #[(.slice sa16 (D0).secs.length sc16), (.slice pa16 (D0).pend.length pc16), .int .i64 D0.left, .bool D0.down] 25)))
  have Pc := Lib.hid (Vc.out.next (Below.new1 (.cells #[(.slice sa16 (D0).secs.length sc16), (.slice pa16 (D0).pend.length pc16), .int .i64 D0.left, .bool D0.down] 25)))
  have Pd := Lib.hid (Vd.out.next (Below.new1 (.cells #[(.slice sa16 (D0).secs.length sc16), (.slice pa16 (D0).pend.length pc16), .int .i64 D0.left, .bool D0.down] 25)))
  have Pf := Lib.hid (Vf.out.next (Below.new1 (.cells #[(.slice sa16 (D0).secs.length sc16), (.slice pa16 (D0).pend.length pc16), .int .i64 D0.left, .bool D0.down] 25)))
  have Pn := Lib.hid (Vn.out.next (Below.new1 (.cells #[(.slice sa16 (D0).secs.length sc16), (.slice pa16 (D0).pend.length pc16), .int .i64 D0.left, .bool D0.down] 25)))
  have Pz := Lib.hid (Vr.new (w := w) H16.out BW16.out.size 25)
  have BP : Hid (Below w.heap.size w (w16.alloc (.cells #[(.slice sa16 (D0).secs.length sc16), (.slice pa16 (D0).pend.length pc16), .int .i64 D0.left, .bool D0.down] 25))) := chain BW16.out (Below.new1 _)
  have zs16 : (w16.alloc (.cells #[(.slice sa16 (D0).secs.length sc16), (.slice pa16 (D0).pend.length pc16), .int .i64 D0.left, .bool D0.down] 25)).heap.size = w16.heap.size + 1 := by simp
  have ZS16 := Lib.hid zs16
  clear zs16
  clear Va Vb Vc Vd Vf Vn
  obtain ⟨af, cf, bf, ef, hBf, hDf⟩ := Pf.out.ex
  have xf0 := hBf.c0
  have xf1 := hBf.c1
  have xf2 := hBf.c2
  have xf3 := hBf.c3
  have xfl := hBf.lt
  have HDf := Lib.hid hDf
  clear hBf hDf
  have HC := Lib.hid (conv_c (ok.check _ l4 _ HDf.out G4) chk_l4)
  rw [DL4.out] at HC
  have dl4 := DL4.out
  go_wp2_with fail
  refine HC.out.mono ?_
  rintro r w17 ⟨rfl, b17⟩
  clear HC
  clear xf0 xf1 xf2 xf3 xfl HDf
  have Z17 : Hid ((w16.alloc (.cells #[(.slice sa16 (D0).secs.length sc16), (.slice pa16 (D0).pend.length pc16), .int .i64 D0.left, .bool D0.down] 25)).heap.size ≤ w17.heap.size) := b17.size
  have Va := Lib.hid (Pa.out.next b17)
  have Vb := Lib.hid (Pb.out.next b17)
  have Vc := Lib.hid (Pc.out.next b17)
  have Vd := Lib.hid (Pd.out.next b17)
  have Vf := Lib.hid (Pf.out.next b17)
  have Vn := Lib.hid (Pn.out.next b17)
  have Vz := Lib.hid (Pz.out.next b17)
  have BW17 : Hid (Below w.heap.size w w17) := chain BP.out b17
  clear BP
  clear Pa Pb Pc Pd Pf Pn Pz
  have NE_1_17 : Hid (w1.heap.size < w17.heap.size) := Nat.lt_of_lt_of_le (Va.out.lt) (Nat.le_refl _)
  have NE_2_17 : Hid (w2.heap.size < w17.heap.size) := Nat.lt_of_lt_of_le (Vb.out.lt) (Nat.le_refl _)
  have NE_3_17 : Hid (w3.heap.size < w17.heap.size) := Nat.lt_of_lt_of_le (Vc.out.lt) (Nat.le_refl _)
  have NE_4_17 : Hid (w4.heap.size < w17.heap.size) := Nat.lt_of_lt_of_le (Vd.out.lt) (Nat.le_refl _)
  have NE_5_17 : Hid (w5.heap.size < w17.heap.size) := Nat.lt_of_lt_of_le (Vf.out.lt) (Nat.le_refl _)
  have NE_6_17 : Hid (w6.heap.size < w17.heap.size) := Nat.lt_of_lt_of_le (Vn.out.lt) (Nat.le_refl _)
  have NE_16_17 : Hid (w16.heap.size < w17.heap.size) := Nat.lt_of_lt_of_le (Vz.out.lt) (Nat.le_refl _)
  clear b17
  have Pa := Lib.hid Va.out
  have Pb := Lib.hid Vb.out
  have Pc := Lib.hid Vc.out
  have Pd := Lib.hid Vd.out
  have Pf := Lib.hid Vf.out
  have Pn := Lib.hid Vn.out
  have Pz := Lib.hid Vz.out
  have BP := Lib.hid BW17.out
  clear Va Vb Vc Vd Vf Vn Vz
  have HC := Lib.hid (conv_c (ok.check _ D0 w17 (DAt.zero _) fit_zero) chk_0)

  go_wp2_with fail
  refine HC.out.mono ?_
  rintro r w18 ⟨rfl, b18⟩
  clear HC
  have Z18 : Hid (w17.heap.size ≤ w18.heap.size) := b18.size
  have Va := Lib.hid (Pa.out.next b18)
  have Vb := Lib.hid (Pb.out.next b18)
  have Vc := Lib.hid (Pc.out.next b18)
  have Vd := Lib.hid (Pd.out.next b18)
  have Vf := Lib.hid (Pf.out.next b18)
  have Vn := Lib.hid (Pn.out.next b18)
  have Vz := Lib.hid (Pz.out.next b18)
  have BW18 : Hid (Below w.heap.size w w18) := chain BP.out b18
  clear BP
  clear Pa Pb Pc Pd Pf Pn Pz
  have NE_1_18 : Hid (w1.heap.size < w18.heap.size) := Nat.lt_of_lt_of_le (Va.out.lt) (Nat.le_refl _)
  have NE_2_18 : Hid (w2.heap.size < w18.heap.size) := Nat.lt_of_lt_of_le (Vb.out.lt) (Nat.le_refl _)
  have NE_3_18 : Hid (w3.heap.size < w18.heap.size) := Nat.lt_of_lt_of_le (Vc.out.lt) (Nat.le_refl _)
  have NE_4_18 : Hid (w4.heap.size < w18.heap.size) := Nat.lt_of_lt_of_le (Vd.out.lt) (Nat.le_refl _)
  have NE_5_18 : Hid (w5.heap.size < w18.heap.size) := Nat.lt_of_lt_of_le (Vf.out.lt) (Nat.le_refl _)
  have NE_6_18 : Hid (w6.heap.size < w18.heap.size) := Nat.lt_of_lt_of_le (Vn.out.lt) (Nat.le_refl _)
  have NE_16_18 : Hid (w16.heap.size < w18.heap.size) := Nat.lt_of_lt_of_le (Vz.out.lt) (Nat.le_refl _)
  clear b18
  have Pa := Lib.hid Va.out
  have Pb := Lib.hid Vb.out
  have Pc := Lib.hid Vc.out
  have Pd := Lib.hid Vd.out
  have Pf := Lib.hid Vf.out
  have Pn := Lib.hid Vn.out
  have Pz := Lib.hid Vz.out
  have BP := Lib.hid BW18.out
  clear Va Vb Vc Vd Vf Vn Vz
  go_wp2_with fail
  go_ret
  exact ⟨rfl, BP.out⟩

end Go.Proofs.Ytcbeodhopimmlaa
