/-
  The laws' sane.
-/
import Derived.Test.YtemldlhhlneleaaDoorJlC
namespace Go.Proofs.YtemldlhhlneleaaDoor.Jn
open Go.RowKit Dk Wi

theorem conv_all {P : Program} {f : FuncId} {args : Array Value} {w : World} {v : List S × Int} {l : List S} {e : Int} (h : Calls P f args w fun r w' => ∃ x, r = .returned (.tuple #[x, .int .i64 v.2]) ∧ LAt w' x v.1 ∧ Below w.heap.size w w') (hv : v = (l, e)) :
    Calls P f args w fun r w' => ∃ a c, r = .returned (.tuple #[.slice a l.length c, .int .i64 e]) ∧ LAt w' (.slice a l.length c) l ∧ Below w.heap.size w w' := by
  subst hv
  refine h.mono ?_
  rintro r w' ⟨x, rfl, hx, hb⟩
  obtain ⟨a, c, rfl, h1, h2⟩ := id hx
  have e : (strs (l.map mkB)).length = l.length := by simp
  rw [e] at hx ⊢
  exact ⟨a, c, rfl, hx, hb⟩
theorem lat_sl {w : World} {v : Value} {l : List S} (h : LAt w v l) : SlAt w v (l.map vS) := by
  obtain ⟨a, c, rfl, -, h2⟩ := h
  have e : strs (l.map mkB) = l.map vS := by unfold strs; rw [List.map_map]; rfl
  rw [e] at h2 ⊢
  exact ⟨a, c, rfl, h2⟩
theorem same_b {w : World} {a b : Value} {x y : List S} (ha : LAt w a x) (hb : LAt w b y) (hx : x.length ≤ 1099511627776) (hy : y.length ≤ 1099511627776) {t : Bool} (ht : decide (x = y) = t) : Calls Tryd.prog 24 #[a, b] w fun r w' => r = .returned (.bool t) ∧ Below w.heap.size w w' := by
  subst ht
  exact SameStrings_x a b x y w (lat_sl ha) (lat_sl hb) hx hy
theorem lat_two (w : World) (T : TypeId) (x y : S) : LAt (w.alloc (.cells #[.string (mkB x), .string (mkB y)] T)) (.slice (some ⟨w.heap.size, 0, none⟩) 2 2) [x, y] := by
  refine ⟨_, 2, rfl, Nat.le_refl _, fun j u hu => ⟨w.heap.size, 0, rfl, by simp, ?_⟩⟩
  rw [World.cell?_alloc_new, Nat.zero_add]
  match j, hu with
  | 0, hu => exact hu
  | 1, hu => exact hu
  | j + 2, hu => simp at hu

set_option maxHeartbeats 12800000 in
set_option maxRecDepth 100000 in
theorem sane_x (ok : JournalOk) (w : World) (ht : Tb w) : Calls Tryd.prog 8 #[] w fun r w' => r = .returned (.bool true) ∧ Below w.heap.size w w' := by
  have VG : Hid (getV ec 0 = (mkB [97, 98], 0)) := Prod.ext (by rw [← vg.1]; rfl) vg.2
  have HT := Lib.hid ht
  clear ht
  go_enter Tryd.func8, Tryd.ntmps8
  have HC := Lib.hid (conv_sh (New_x 5 w (by unfold I64; decide)) v0 sh0.1 sh0.2.1 sh0.2.2.1 sh0.2.2.2.1)
  go_wp2_with fail
  refine HC.out.mono ?_
  rintro r w1 ⟨a1, c1, p1, e1, rfl, h1, b1⟩
  clear HC
  have BB := Lib.hid (b1)
  have h1' := Lib.hid (h1.next (Below.new1 (.cells #[.slice a1 5 c1, .slice p1 0 e1, .int .i64 (-1), .bool false] 27)))
  clear h1 b1
  have BB' := Lib.hid (chain BB.out (Below.new1 (.cells #[.slice a1 5 c1, .slice p1 0 e1, .int .i64 (-1), .bool false] 27)))
  clear BB
  have BB := Lib.hid BB'.out
  clear BB'
  have Pd := Lib.hid (Bx.new w1 (.slice a1 5 c1) (.slice p1 0 e1) (-1) false 27)
  have Hd := Lib.hid h1'.out
  clear h1'
  have x0 := Pd.out.c0
  have x1 := Pd.out.c1
  have x2 := Pd.out.c2
  have x3 := Pd.out.c3
  have xl := Pd.out.lt
  have HC := Lib.hid (conv_all (ok.all _ e0 _ Hd.out (fit_right sh0.2.2.2.2)) vn)
  go_wp2_with fail
  refine HC.out.mono ?_
  rintro r w2 ⟨a2, c2, rfl, h2, b2⟩
  clear HC x0 x1 x2 x3 xl
  have Qd := Lib.hid (Pd.out.next (b2))
  have Id := Lib.hid (Hd.out.next (b2))
  clear Pd Hd
  have Pd := Lib.hid Qd.out
  have Hd := Lib.hid Id.out
  clear Qd Id
  have BB' := Lib.hid (chain BB.out (b2))
  clear BB
  have BB := Lib.hid BB'.out
  clear BB'
  have Lz0 := Lib.hid h2
  clear h2 b2
  have x0 := Pd.out.c0
  have x1 := Pd.out.c1
  have x2 := Pd.out.c2
  have x3 := Pd.out.c3
  have xl := Pd.out.lt
  have HC := Lib.hid (conv_sh (ok.format _ e0 _ Hd.out (fit_right sh0.2.2.2.2) (HT.out.next BB.out)) va sha.1 sha.2.1 sha.2.2.1 sha.2.2.2.1)
  go_wp2_with fail
  refine HC.out.mono ?_
  rintro r w3 ⟨a3, c3, p3, e3, rfl, h3, b3⟩
  clear HC x0 x1 x2 x3 xl
  have Qd := Lib.hid (Pd.out.next (b3))
  have Id := Lib.hid (Hd.out.next (b3))
  clear Pd Hd
  have Pd := Lib.hid Qd.out
  have Hd := Lib.hid Id.out
  clear Qd Id
  have Mz0 := Lib.hid (Lz0.out.next (b3))
  clear Lz0
  have Lz0 := Lib.hid Mz0.out
  clear Mz0
  have BB' := Lib.hid (chain BB.out (b3))
  clear BB
  have BB := Lib.hid BB'.out
  clear BB'
  have h3' := Lib.hid (h3.next (Below.new1 (.cells #[.slice a3 5 c3, .slice p3 0 e3, .int .i64 (-1), .bool false] 27)))
  clear h3 b3
  have Qd := Lib.hid (Pd.out.next (Below.new1 (.cells #[.slice a3 5 c3, .slice p3 0 e3, .int .i64 (-1), .bool false] 27)))
  have Id := Lib.hid (Hd.out.next (Below.new1 (.cells #[.slice a3 5 c3, .slice p3 0 e3, .int .i64 (-1), .bool false] 27)))
  clear Pd Hd
  have Pd := Lib.hid Qd.out
  have Hd := Lib.hid Id.out
  clear Qd Id
  have Mz0 := Lib.hid (Lz0.out.next (Below.new1 (.cells #[.slice a3 5 c3, .slice p3 0 e3, .int .i64 (-1), .bool false] 27)))
  clear Lz0
  have Lz0 := Lib.hid Mz0.out
  clear Mz0
  have BB' := Lib.hid (chain BB.out (Below.new1 (.cells #[.slice a3 5 c3, .slice p3 0 e3, .int .i64 (-1), .bool false] 27)))
  clear BB
  have BB := Lib.hid BB'.out
  clear BB'
  have Pa := Lib.hid (Bx.new w3 (.slice a3 5 c3) (.slice p3 0 e3) (-1) false 27)
  have Ha := Lib.hid h3'.out
  clear h3'
  have x0 := Pa.out.c0
  have x1 := Pa.out.c1
  have x2 := Pa.out.c2
  have x3 := Pa.out.c3
  have xl := Pa.out.lt
  have HC := Lib.hid (conv_sh (ok.append _ ea (mkB [97, 98]) _ Ha.out (fit_right sha.2.2.2.2) (by decide) (HT.out.next BB.out)) vb shb.1 shb.2.1 shb.2.2.1 shb.2.2.2.1)
  go_wp2_with fail
  refine HC.out.mono ?_
  rintro r w4 ⟨a4, c4, p4, e4, rfl, h4, b4⟩
  clear HC x0 x1 x2 x3 xl
  have Qd := Lib.hid (Pd.out.next (b4))
  have Id := Lib.hid (Hd.out.next (b4))
  have Qa := Lib.hid (Pa.out.next (b4))
  have Ia := Lib.hid (Ha.out.next (b4))
  clear Pd Hd Pa Ha
  have Pd := Lib.hid Qd.out
  have Hd := Lib.hid Id.out
  have Pa := Lib.hid Qa.out
  have Ha := Lib.hid Ia.out
  clear Qd Id Qa Ia
  have Mz0 := Lib.hid (Lz0.out.next (b4))
  clear Lz0
  have Lz0 := Lib.hid Mz0.out
  clear Mz0
  have BB' := Lib.hid (chain BB.out (b4))
  clear BB
  have BB := Lib.hid BB'.out
  clear BB'
  have h4' := Lib.hid (h4.next (Below.new1 (.cells #[.slice a4 5 c4, .slice p4 0 e4, .int .i64 (-1), .bool false] 27)))
  clear h4 b4
  have Qd := Lib.hid (Pd.out.next (Below.new1 (.cells #[.slice a4 5 c4, .slice p4 0 e4, .int .i64 (-1), .bool false] 27)))
  have Id := Lib.hid (Hd.out.next (Below.new1 (.cells #[.slice a4 5 c4, .slice p4 0 e4, .int .i64 (-1), .bool false] 27)))
  have Qa := Lib.hid (Pa.out.next (Below.new1 (.cells #[.slice a4 5 c4, .slice p4 0 e4, .int .i64 (-1), .bool false] 27)))
  have Ia := Lib.hid (Ha.out.next (Below.new1 (.cells #[.slice a4 5 c4, .slice p4 0 e4, .int .i64 (-1), .bool false] 27)))
  clear Pd Hd Pa Ha
  have Pd := Lib.hid Qd.out
  have Hd := Lib.hid Id.out
  have Pa := Lib.hid Qa.out
  have Ha := Lib.hid Ia.out
  clear Qd Id Qa Ia
  have Mz0 := Lib.hid (Lz0.out.next (Below.new1 (.cells #[.slice a4 5 c4, .slice p4 0 e4, .int .i64 (-1), .bool false] 27)))
  clear Lz0
  have Lz0 := Lib.hid Mz0.out
  clear Mz0
  have BB' := Lib.hid (chain BB.out (Below.new1 (.cells #[.slice a4 5 c4, .slice p4 0 e4, .int .i64 (-1), .bool false] 27)))
  clear BB
  have BB := Lib.hid BB'.out
  clear BB'
  have Pb := Lib.hid (Bx.new w4 (.slice a4 5 c4) (.slice p4 0 e4) (-1) false 27)
  have Hb := Lib.hid h4'.out
  clear h4'
  have x0 := Pb.out.c0
  have x1 := Pb.out.c1
  have x2 := Pb.out.c2
  have x3 := Pb.out.c3
  have xl := Pb.out.lt
  have HC := Lib.hid (conv_sh (ok.append _ eb (mkB []) _ Hb.out (fit_right shb.2.2.2.2) (by decide) (HT.out.next BB.out)) vc shc.1 shc.2.1 shc.2.2.1 shc.2.2.2.1)
  go_wp2_with fail
  refine HC.out.mono ?_
  rintro r w5 ⟨a5, c5, p5, e5, rfl, h5, b5⟩
  clear HC x0 x1 x2 x3 xl
  have Qd := Lib.hid (Pd.out.next (b5))
  have Id := Lib.hid (Hd.out.next (b5))
  have Qa := Lib.hid (Pa.out.next (b5))
  have Ia := Lib.hid (Ha.out.next (b5))
  have Qb := Lib.hid (Pb.out.next (b5))
  have Ib := Lib.hid (Hb.out.next (b5))
  clear Pd Hd Pa Ha Pb Hb
  have Pd := Lib.hid Qd.out
  have Hd := Lib.hid Id.out
  have Pa := Lib.hid Qa.out
  have Ha := Lib.hid Ia.out
  have Pb := Lib.hid Qb.out
  have Hb := Lib.hid Ib.out
  clear Qd Id Qa Ia Qb Ib
  have Mz0 := Lib.hid (Lz0.out.next (b5))
  clear Lz0
  have Lz0 := Lib.hid Mz0.out
  clear Mz0
  have BB' := Lib.hid (chain BB.out (b5))
  clear BB
  have BB := Lib.hid BB'.out
  clear BB'
  have h5' := Lib.hid (h5.next (Below.new1 (.cells #[.slice a5 5 c5, .slice p5 0 e5, .int .i64 (-1), .bool false] 27)))
  clear h5 b5
  have Qd := Lib.hid (Pd.out.next (Below.new1 (.cells #[.slice a5 5 c5, .slice p5 0 e5, .int .i64 (-1), .bool false] 27)))
  have Id := Lib.hid (Hd.out.next (Below.new1 (.cells #[.slice a5 5 c5, .slice p5 0 e5, .int .i64 (-1), .bool false] 27)))
  have Qa := Lib.hid (Pa.out.next (Below.new1 (.cells #[.slice a5 5 c5, .slice p5 0 e5, .int .i64 (-1), .bool false] 27)))
  have Ia := Lib.hid (Ha.out.next (Below.new1 (.cells #[.slice a5 5 c5, .slice p5 0 e5, .int .i64 (-1), .bool false] 27)))
  have Qb := Lib.hid (Pb.out.next (Below.new1 (.cells #[.slice a5 5 c5, .slice p5 0 e5, .int .i64 (-1), .bool false] 27)))
  have Ib := Lib.hid (Hb.out.next (Below.new1 (.cells #[.slice a5 5 c5, .slice p5 0 e5, .int .i64 (-1), .bool false] 27)))
  clear Pd Hd Pa Ha Pb Hb
  have Pd := Lib.hid Qd.out
  have Hd := Lib.hid Id.out
  have Pa := Lib.hid Qa.out
  have Ha := Lib.hid Ia.out
  have Pb := Lib.hid Qb.out
  have Hb := Lib.hid Ib.out
  clear Qd Id Qa Ia Qb Ib
  have Mz0 := Lib.hid (Lz0.out.next (Below.new1 (.cells #[.slice a5 5 c5, .slice p5 0 e5, .int .i64 (-1), .bool false] 27)))
  clear Lz0
  have Lz0 := Lib.hid Mz0.out
  clear Mz0
  have BB' := Lib.hid (chain BB.out (Below.new1 (.cells #[.slice a5 5 c5, .slice p5 0 e5, .int .i64 (-1), .bool false] 27)))
  clear BB
  have BB := Lib.hid BB'.out
  clear BB'
  have Pc := Lib.hid (Bx.new w5 (.slice a5 5 c5) (.slice p5 0 e5) (-1) false 27)
  have Hc := Lib.hid h5'.out
  clear h5'
  have x0 := Pc.out.c0
  have x1 := Pc.out.c1
  have x2 := Pc.out.c2
  have x3 := Pc.out.c3
  have xl := Pc.out.lt
  have HC := Lib.hid (conv_all (ok.all _ ec _ Hc.out (fit_right shc.2.2.2.2)) vl)
  go_wp2_with fail
  refine HC.out.mono ?_
  rintro r w6 ⟨a6, c6, rfl, h6, b6⟩
  clear HC x0 x1 x2 x3 xl
  have Qd := Lib.hid (Pd.out.next (b6))
  have Id := Lib.hid (Hd.out.next (b6))
  have Qa := Lib.hid (Pa.out.next (b6))
  have Ia := Lib.hid (Ha.out.next (b6))
  have Qb := Lib.hid (Pb.out.next (b6))
  have Ib := Lib.hid (Hb.out.next (b6))
  have Qc := Lib.hid (Pc.out.next (b6))
  have Ic := Lib.hid (Hc.out.next (b6))
  clear Pd Hd Pa Ha Pb Hb Pc Hc
  have Pd := Lib.hid Qd.out
  have Hd := Lib.hid Id.out
  have Pa := Lib.hid Qa.out
  have Ha := Lib.hid Ia.out
  have Pb := Lib.hid Qb.out
  have Hb := Lib.hid Ib.out
  have Pc := Lib.hid Qc.out
  have Hc := Lib.hid Ic.out
  clear Qd Id Qa Ia Qb Ib Qc Ic
  have Mz0 := Lib.hid (Lz0.out.next (b6))
  clear Lz0
  have Lz0 := Lib.hid Mz0.out
  clear Mz0
  have BB' := Lib.hid (chain BB.out (b6))
  clear BB
  have BB := Lib.hid BB'.out
  clear BB'
  have Ll := Lib.hid h6
  clear h6 b6
  have x0 := Pc.out.c0
  have x1 := Pc.out.c1
  have x2 := Pc.out.c2
  have x3 := Pc.out.c3
  have xl := Pc.out.lt
  have HC := Lib.hid (show Calls _ _ _ _ (fun r w' => r = .returned (.tuple #[.int .i64 2, .int .i64 0]) ∧ Below _ _ w') from (by have h := ok.len _ ec _ Hc.out (fit_right shc.2.2.2.2); rw [vl] at h; exact h))
  go_wp2_with fail
  refine HC.out.mono ?_
  rintro r w7 ⟨rfl, b7⟩
  clear HC x0 x1 x2 x3 xl
  have Qd := Lib.hid (Pd.out.next (b7))
  have Id := Lib.hid (Hd.out.next (b7))
  have Qa := Lib.hid (Pa.out.next (b7))
  have Ia := Lib.hid (Ha.out.next (b7))
  have Qb := Lib.hid (Pb.out.next (b7))
  have Ib := Lib.hid (Hb.out.next (b7))
  have Qc := Lib.hid (Pc.out.next (b7))
  have Ic := Lib.hid (Hc.out.next (b7))
  clear Pd Hd Pa Ha Pb Hb Pc Hc
  have Pd := Lib.hid Qd.out
  have Hd := Lib.hid Id.out
  have Pa := Lib.hid Qa.out
  have Ha := Lib.hid Ia.out
  have Pb := Lib.hid Qb.out
  have Hb := Lib.hid Ib.out
  have Pc := Lib.hid Qc.out
  have Hc := Lib.hid Ic.out
  clear Qd Id Qa Ia Qb Ib Qc Ic
  have Mz0 := Lib.hid (Lz0.out.next (b7))
  have Ml := Lib.hid (Ll.out.next (b7))
  clear Lz0 Ll
  have Lz0 := Lib.hid Mz0.out
  have Ll := Lib.hid Ml.out
  clear Mz0 Ml
  have BB' := Lib.hid (chain BB.out (b7))
  clear BB
  have BB := Lib.hid BB'.out
  clear BB'
  clear b7
  have x0 := Pc.out.c0
  have x1 := Pc.out.c1
  have x2 := Pc.out.c2
  have x3 := Pc.out.c3
  have xl := Pc.out.lt
  have HC := Lib.hid (conv_sh (Arm_x _ ec 1 _ Hc.out (fit_right shc.2.2.2.2)) vx shx.1 shx.2.1 shx.2.2.1 shx.2.2.2.1)
  go_wp2_with fail
  refine HC.out.mono ?_
  rintro r w8 ⟨a8, c8, p8, e8, rfl, h8, b8⟩
  clear HC x0 x1 x2 x3 xl
  have Qd := Lib.hid (Pd.out.next (b8))
  have Id := Lib.hid (Hd.out.next (b8))
  have Qa := Lib.hid (Pa.out.next (b8))
  have Ia := Lib.hid (Ha.out.next (b8))
  have Qb := Lib.hid (Pb.out.next (b8))
  have Ib := Lib.hid (Hb.out.next (b8))
  have Qc := Lib.hid (Pc.out.next (b8))
  have Ic := Lib.hid (Hc.out.next (b8))
  clear Pd Hd Pa Ha Pb Hb Pc Hc
  have Pd := Lib.hid Qd.out
  have Hd := Lib.hid Id.out
  have Pa := Lib.hid Qa.out
  have Ha := Lib.hid Ia.out
  have Pb := Lib.hid Qb.out
  have Hb := Lib.hid Ib.out
  have Pc := Lib.hid Qc.out
  have Hc := Lib.hid Ic.out
  clear Qd Id Qa Ia Qb Ib Qc Ic
  have Mz0 := Lib.hid (Lz0.out.next (b8))
  have Ml := Lib.hid (Ll.out.next (b8))
  clear Lz0 Ll
  have Lz0 := Lib.hid Mz0.out
  have Ll := Lib.hid Ml.out
  clear Mz0 Ml
  have BB' := Lib.hid (chain BB.out (b8))
  clear BB
  have BB := Lib.hid BB'.out
  clear BB'
  have h8' := Lib.hid (h8.next (Below.new1 (.cells #[.slice a8 5 c8, .slice p8 0 e8, .int .i64 1, .bool false] 27)))
  clear h8 b8
  have Qd := Lib.hid (Pd.out.next (Below.new1 (.cells #[.slice a8 5 c8, .slice p8 0 e8, .int .i64 1, .bool false] 27)))
  have Id := Lib.hid (Hd.out.next (Below.new1 (.cells #[.slice a8 5 c8, .slice p8 0 e8, .int .i64 1, .bool false] 27)))
  have Qa := Lib.hid (Pa.out.next (Below.new1 (.cells #[.slice a8 5 c8, .slice p8 0 e8, .int .i64 1, .bool false] 27)))
  have Ia := Lib.hid (Ha.out.next (Below.new1 (.cells #[.slice a8 5 c8, .slice p8 0 e8, .int .i64 1, .bool false] 27)))
  have Qb := Lib.hid (Pb.out.next (Below.new1 (.cells #[.slice a8 5 c8, .slice p8 0 e8, .int .i64 1, .bool false] 27)))
  have Ib := Lib.hid (Hb.out.next (Below.new1 (.cells #[.slice a8 5 c8, .slice p8 0 e8, .int .i64 1, .bool false] 27)))
  have Qc := Lib.hid (Pc.out.next (Below.new1 (.cells #[.slice a8 5 c8, .slice p8 0 e8, .int .i64 1, .bool false] 27)))
  have Ic := Lib.hid (Hc.out.next (Below.new1 (.cells #[.slice a8 5 c8, .slice p8 0 e8, .int .i64 1, .bool false] 27)))
  clear Pd Hd Pa Ha Pb Hb Pc Hc
  have Pd := Lib.hid Qd.out
  have Hd := Lib.hid Id.out
  have Pa := Lib.hid Qa.out
  have Ha := Lib.hid Ia.out
  have Pb := Lib.hid Qb.out
  have Hb := Lib.hid Ib.out
  have Pc := Lib.hid Qc.out
  have Hc := Lib.hid Ic.out
  clear Qd Id Qa Ia Qb Ib Qc Ic
  have Mz0 := Lib.hid (Lz0.out.next (Below.new1 (.cells #[.slice a8 5 c8, .slice p8 0 e8, .int .i64 1, .bool false] 27)))
  have Ml := Lib.hid (Ll.out.next (Below.new1 (.cells #[.slice a8 5 c8, .slice p8 0 e8, .int .i64 1, .bool false] 27)))
  clear Lz0 Ll
  have Lz0 := Lib.hid Mz0.out
  have Ll := Lib.hid Ml.out
  clear Mz0 Ml
  have BB' := Lib.hid (chain BB.out (Below.new1 (.cells #[.slice a8 5 c8, .slice p8 0 e8, .int .i64 1, .bool false] 27)))
  clear BB
  have BB := Lib.hid BB'.out
  clear BB'
  have Px := Lib.hid (Bx.new w8 (.slice a8 5 c8) (.slice p8 0 e8) 1 false 27)
  have Hx := Lib.hid h8'.out
  clear h8'
  have x0 := Px.out.c0
  have x1 := Px.out.c1
  have x2 := Px.out.c2
  have x3 := Px.out.c3
  have xl := Px.out.lt
  have HC := Lib.hid (conv_sh (ok.append _ ex (mkB [99]) _ Hx.out (fit_right shx.2.2.2.2) (by decide) (HT.out.next BB.out)) vy shy.1 shy.2.1 shy.2.2.1 shy.2.2.2.1)
  go_wp2_with fail
  refine HC.out.mono ?_
  rintro r w9 ⟨a9, c9, p9, e9, rfl, h9, b9⟩
  clear HC x0 x1 x2 x3 xl
  have Qd := Lib.hid (Pd.out.next (b9))
  have Id := Lib.hid (Hd.out.next (b9))
  have Qa := Lib.hid (Pa.out.next (b9))
  have Ia := Lib.hid (Ha.out.next (b9))
  have Qb := Lib.hid (Pb.out.next (b9))
  have Ib := Lib.hid (Hb.out.next (b9))
  have Qc := Lib.hid (Pc.out.next (b9))
  have Ic := Lib.hid (Hc.out.next (b9))
  have Qx := Lib.hid (Px.out.next (b9))
  have Ix := Lib.hid (Hx.out.next (b9))
  clear Pd Hd Pa Ha Pb Hb Pc Hc Px Hx
  have Pd := Lib.hid Qd.out
  have Hd := Lib.hid Id.out
  have Pa := Lib.hid Qa.out
  have Ha := Lib.hid Ia.out
  have Pb := Lib.hid Qb.out
  have Hb := Lib.hid Ib.out
  have Pc := Lib.hid Qc.out
  have Hc := Lib.hid Ic.out
  have Px := Lib.hid Qx.out
  have Hx := Lib.hid Ix.out
  clear Qd Id Qa Ia Qb Ib Qc Ic Qx Ix
  have Mz0 := Lib.hid (Lz0.out.next (b9))
  have Ml := Lib.hid (Ll.out.next (b9))
  clear Lz0 Ll
  have Lz0 := Lib.hid Mz0.out
  have Ll := Lib.hid Ml.out
  clear Mz0 Ml
  have BB' := Lib.hid (chain BB.out (b9))
  clear BB
  have BB := Lib.hid BB'.out
  clear BB'
  have h9' := Lib.hid (h9.next (Below.new1 (.cells #[.slice a9 5 c9, .slice p9 0 e9, .int .i64 (-1), .bool true] 27)))
  clear h9 b9
  have Qd := Lib.hid (Pd.out.next (Below.new1 (.cells #[.slice a9 5 c9, .slice p9 0 e9, .int .i64 (-1), .bool true] 27)))
  have Id := Lib.hid (Hd.out.next (Below.new1 (.cells #[.slice a9 5 c9, .slice p9 0 e9, .int .i64 (-1), .bool true] 27)))
  have Qa := Lib.hid (Pa.out.next (Below.new1 (.cells #[.slice a9 5 c9, .slice p9 0 e9, .int .i64 (-1), .bool true] 27)))
  have Ia := Lib.hid (Ha.out.next (Below.new1 (.cells #[.slice a9 5 c9, .slice p9 0 e9, .int .i64 (-1), .bool true] 27)))
  have Qb := Lib.hid (Pb.out.next (Below.new1 (.cells #[.slice a9 5 c9, .slice p9 0 e9, .int .i64 (-1), .bool true] 27)))
  have Ib := Lib.hid (Hb.out.next (Below.new1 (.cells #[.slice a9 5 c9, .slice p9 0 e9, .int .i64 (-1), .bool true] 27)))
  have Qc := Lib.hid (Pc.out.next (Below.new1 (.cells #[.slice a9 5 c9, .slice p9 0 e9, .int .i64 (-1), .bool true] 27)))
  have Ic := Lib.hid (Hc.out.next (Below.new1 (.cells #[.slice a9 5 c9, .slice p9 0 e9, .int .i64 (-1), .bool true] 27)))
  have Qx := Lib.hid (Px.out.next (Below.new1 (.cells #[.slice a9 5 c9, .slice p9 0 e9, .int .i64 (-1), .bool true] 27)))
  have Ix := Lib.hid (Hx.out.next (Below.new1 (.cells #[.slice a9 5 c9, .slice p9 0 e9, .int .i64 (-1), .bool true] 27)))
  clear Pd Hd Pa Ha Pb Hb Pc Hc Px Hx
  have Pd := Lib.hid Qd.out
  have Hd := Lib.hid Id.out
  have Pa := Lib.hid Qa.out
  have Ha := Lib.hid Ia.out
  have Pb := Lib.hid Qb.out
  have Hb := Lib.hid Ib.out
  have Pc := Lib.hid Qc.out
  have Hc := Lib.hid Ic.out
  have Px := Lib.hid Qx.out
  have Hx := Lib.hid Ix.out
  clear Qd Id Qa Ia Qb Ib Qc Ic Qx Ix
  have Mz0 := Lib.hid (Lz0.out.next (Below.new1 (.cells #[.slice a9 5 c9, .slice p9 0 e9, .int .i64 (-1), .bool true] 27)))
  have Ml := Lib.hid (Ll.out.next (Below.new1 (.cells #[.slice a9 5 c9, .slice p9 0 e9, .int .i64 (-1), .bool true] 27)))
  clear Lz0 Ll
  have Lz0 := Lib.hid Mz0.out
  have Ll := Lib.hid Ml.out
  clear Mz0 Ml
  have BB' := Lib.hid (chain BB.out (Below.new1 (.cells #[.slice a9 5 c9, .slice p9 0 e9, .int .i64 (-1), .bool true] 27)))
  clear BB
  have BB := Lib.hid BB'.out
  clear BB'
  have Py := Lib.hid (Bx.new w9 (.slice a9 5 c9) (.slice p9 0 e9) (-1) true 27)
  have Hy := Lib.hid h9'.out
  clear h9'
  have x0 := Py.out.c0
  have x1 := Py.out.c1
  have x2 := Py.out.c2
  have x3 := Py.out.c3
  have xl := Py.out.lt
  have HC := Lib.hid (conv_sh (Start_x _ ey _ Hy.out (fit_right shy.2.2.2.2)) vz shz.1 shz.2.1 shz.2.2.1 shz.2.2.2.1)
  go_wp2_with fail
  refine HC.out.mono ?_
  rintro r w10 ⟨a10, c10, p10, e10, rfl, h10, b10⟩
  clear HC x0 x1 x2 x3 xl
  have Qd := Lib.hid (Pd.out.next (b10))
  have Id := Lib.hid (Hd.out.next (b10))
  have Qa := Lib.hid (Pa.out.next (b10))
  have Ia := Lib.hid (Ha.out.next (b10))
  have Qb := Lib.hid (Pb.out.next (b10))
  have Ib := Lib.hid (Hb.out.next (b10))
  have Qc := Lib.hid (Pc.out.next (b10))
  have Ic := Lib.hid (Hc.out.next (b10))
  have Qx := Lib.hid (Px.out.next (b10))
  have Ix := Lib.hid (Hx.out.next (b10))
  have Qy := Lib.hid (Py.out.next (b10))
  have Iy := Lib.hid (Hy.out.next (b10))
  clear Pd Hd Pa Ha Pb Hb Pc Hc Px Hx Py Hy
  have Pd := Lib.hid Qd.out
  have Hd := Lib.hid Id.out
  have Pa := Lib.hid Qa.out
  have Ha := Lib.hid Ia.out
  have Pb := Lib.hid Qb.out
  have Hb := Lib.hid Ib.out
  have Pc := Lib.hid Qc.out
  have Hc := Lib.hid Ic.out
  have Px := Lib.hid Qx.out
  have Hx := Lib.hid Ix.out
  have Py := Lib.hid Qy.out
  have Hy := Lib.hid Iy.out
  clear Qd Id Qa Ia Qb Ib Qc Ic Qx Ix Qy Iy
  have Mz0 := Lib.hid (Lz0.out.next (b10))
  have Ml := Lib.hid (Ll.out.next (b10))
  clear Lz0 Ll
  have Lz0 := Lib.hid Mz0.out
  have Ll := Lib.hid Ml.out
  clear Mz0 Ml
  have BB' := Lib.hid (chain BB.out (b10))
  clear BB
  have BB := Lib.hid BB'.out
  clear BB'
  have h10' := Lib.hid (h10.next (Below.new1 (.cells #[.slice a10 5 c10, .slice p10 0 e10, .int .i64 (-1), .bool false] 27)))
  clear h10 b10
  have Qd := Lib.hid (Pd.out.next (Below.new1 (.cells #[.slice a10 5 c10, .slice p10 0 e10, .int .i64 (-1), .bool false] 27)))
  have Id := Lib.hid (Hd.out.next (Below.new1 (.cells #[.slice a10 5 c10, .slice p10 0 e10, .int .i64 (-1), .bool false] 27)))
  have Qa := Lib.hid (Pa.out.next (Below.new1 (.cells #[.slice a10 5 c10, .slice p10 0 e10, .int .i64 (-1), .bool false] 27)))
  have Ia := Lib.hid (Ha.out.next (Below.new1 (.cells #[.slice a10 5 c10, .slice p10 0 e10, .int .i64 (-1), .bool false] 27)))
  have Qb := Lib.hid (Pb.out.next (Below.new1 (.cells #[.slice a10 5 c10, .slice p10 0 e10, .int .i64 (-1), .bool false] 27)))
  have Ib := Lib.hid (Hb.out.next (Below.new1 (.cells #[.slice a10 5 c10, .slice p10 0 e10, .int .i64 (-1), .bool false] 27)))
  have Qc := Lib.hid (Pc.out.next (Below.new1 (.cells #[.slice a10 5 c10, .slice p10 0 e10, .int .i64 (-1), .bool false] 27)))
  have Ic := Lib.hid (Hc.out.next (Below.new1 (.cells #[.slice a10 5 c10, .slice p10 0 e10, .int .i64 (-1), .bool false] 27)))
  have Qx := Lib.hid (Px.out.next (Below.new1 (.cells #[.slice a10 5 c10, .slice p10 0 e10, .int .i64 (-1), .bool false] 27)))
  have Ix := Lib.hid (Hx.out.next (Below.new1 (.cells #[.slice a10 5 c10, .slice p10 0 e10, .int .i64 (-1), .bool false] 27)))
  have Qy := Lib.hid (Py.out.next (Below.new1 (.cells #[.slice a10 5 c10, .slice p10 0 e10, .int .i64 (-1), .bool false] 27)))
  have Iy := Lib.hid (Hy.out.next (Below.new1 (.cells #[.slice a10 5 c10, .slice p10 0 e10, .int .i64 (-1), .bool false] 27)))
  clear Pd Hd Pa Ha Pb Hb Pc Hc Px Hx Py Hy
  have Pd := Lib.hid Qd.out
  have Hd := Lib.hid Id.out
  have Pa := Lib.hid Qa.out
  have Ha := Lib.hid Ia.out
  have Pb := Lib.hid Qb.out
  have Hb := Lib.hid Ib.out
  have Pc := Lib.hid Qc.out
  have Hc := Lib.hid Ic.out
  have Px := Lib.hid Qx.out
  have Hx := Lib.hid Ix.out
  have Py := Lib.hid Qy.out
  have Hy := Lib.hid Iy.out
  clear Qd Id Qa Ia Qb Ib Qc Ic Qx Ix Qy Iy
  have Mz0 := Lib.hid (Lz0.out.next (Below.new1 (.cells #[.slice a10 5 c10, .slice p10 0 e10, .int .i64 (-1), .bool false] 27)))
  have Ml := Lib.hid (Ll.out.next (Below.new1 (.cells #[.slice a10 5 c10, .slice p10 0 e10, .int .i64 (-1), .bool false] 27)))
  clear Lz0 Ll
  have Lz0 := Lib.hid Mz0.out
  have Ll := Lib.hid Ml.out
  clear Mz0 Ml
  have BB' := Lib.hid (chain BB.out (Below.new1 (.cells #[.slice a10 5 c10, .slice p10 0 e10, .int .i64 (-1), .bool false] 27)))
  clear BB
  have BB := Lib.hid BB'.out
  clear BB'
  have Pz := Lib.hid (Bx.new w10 (.slice a10 5 c10) (.slice p10 0 e10) (-1) false 27)
  have Hz := Lib.hid h10'.out
  clear h10'
  have x0 := Pz.out.c0
  have x1 := Pz.out.c1
  have x2 := Pz.out.c2
  have x3 := Pz.out.c3
  have xl := Pz.out.lt
  have HC := Lib.hid (conv_all (ok.all _ ez _ Hz.out (fit_right shz.2.2.2.2)) vm)
  go_wp2_with fail
  refine HC.out.mono ?_
  rintro r w11 ⟨a11, c11, rfl, h11, b11⟩
  clear HC x0 x1 x2 x3 xl
  have Qd := Lib.hid (Pd.out.next (b11))
  have Id := Lib.hid (Hd.out.next (b11))
  have Qa := Lib.hid (Pa.out.next (b11))
  have Ia := Lib.hid (Ha.out.next (b11))
  have Qb := Lib.hid (Pb.out.next (b11))
  have Ib := Lib.hid (Hb.out.next (b11))
  have Qc := Lib.hid (Pc.out.next (b11))
  have Ic := Lib.hid (Hc.out.next (b11))
  have Qx := Lib.hid (Px.out.next (b11))
  have Ix := Lib.hid (Hx.out.next (b11))
  have Qy := Lib.hid (Py.out.next (b11))
  have Iy := Lib.hid (Hy.out.next (b11))
  have Qz := Lib.hid (Pz.out.next (b11))
  have Iz := Lib.hid (Hz.out.next (b11))
  clear Pd Hd Pa Ha Pb Hb Pc Hc Px Hx Py Hy Pz Hz
  have Pd := Lib.hid Qd.out
  have Hd := Lib.hid Id.out
  have Pa := Lib.hid Qa.out
  have Ha := Lib.hid Ia.out
  have Pb := Lib.hid Qb.out
  have Hb := Lib.hid Ib.out
  have Pc := Lib.hid Qc.out
  have Hc := Lib.hid Ic.out
  have Px := Lib.hid Qx.out
  have Hx := Lib.hid Ix.out
  have Py := Lib.hid Qy.out
  have Hy := Lib.hid Iy.out
  have Pz := Lib.hid Qz.out
  have Hz := Lib.hid Iz.out
  clear Qd Id Qa Ia Qb Ib Qc Ic Qx Ix Qy Iy Qz Iz
  have Mz0 := Lib.hid (Lz0.out.next (b11))
  have Ml := Lib.hid (Ll.out.next (b11))
  clear Lz0 Ll
  have Lz0 := Lib.hid Mz0.out
  have Ll := Lib.hid Ml.out
  clear Mz0 Ml
  have BB' := Lib.hid (chain BB.out (b11))
  clear BB
  have BB := Lib.hid BB'.out
  clear BB'
  have Lm := Lib.hid h11
  clear h11 b11
  have x0 := Pc.out.c0
  have x1 := Pc.out.c1
  have x2 := Pc.out.c2
  have x3 := Pc.out.c3
  have xl := Pc.out.lt
  have HC := Lib.hid (show Calls _ _ _ _ (fun r w' => r = .returned (.tuple #[.string (mkB [97, 98]), .int .i64 0]) ∧ Below _ _ w') from (by have h := ok.get _ ec 0 _ Hc.out (fit_right shc.2.2.2.2) (by unfold I64; decide); rw [VG.out] at h; exact h))
  go_wp2_with fail
  refine HC.out.mono ?_
  rintro r w12 ⟨rfl, b12⟩
  clear HC x0 x1 x2 x3 xl
  have Qd := Lib.hid (Pd.out.next (b12))
  have Id := Lib.hid (Hd.out.next (b12))
  have Qa := Lib.hid (Pa.out.next (b12))
  have Ia := Lib.hid (Ha.out.next (b12))
  have Qb := Lib.hid (Pb.out.next (b12))
  have Ib := Lib.hid (Hb.out.next (b12))
  have Qc := Lib.hid (Pc.out.next (b12))
  have Ic := Lib.hid (Hc.out.next (b12))
  have Qx := Lib.hid (Px.out.next (b12))
  have Ix := Lib.hid (Hx.out.next (b12))
  have Qy := Lib.hid (Py.out.next (b12))
  have Iy := Lib.hid (Hy.out.next (b12))
  have Qz := Lib.hid (Pz.out.next (b12))
  have Iz := Lib.hid (Hz.out.next (b12))
  clear Pd Hd Pa Ha Pb Hb Pc Hc Px Hx Py Hy Pz Hz
  have Pd := Lib.hid Qd.out
  have Hd := Lib.hid Id.out
  have Pa := Lib.hid Qa.out
  have Ha := Lib.hid Ia.out
  have Pb := Lib.hid Qb.out
  have Hb := Lib.hid Ib.out
  have Pc := Lib.hid Qc.out
  have Hc := Lib.hid Ic.out
  have Px := Lib.hid Qx.out
  have Hx := Lib.hid Ix.out
  have Py := Lib.hid Qy.out
  have Hy := Lib.hid Iy.out
  have Pz := Lib.hid Qz.out
  have Hz := Lib.hid Iz.out
  clear Qd Id Qa Ia Qb Ib Qc Ic Qx Ix Qy Iy Qz Iz
  have Mz0 := Lib.hid (Lz0.out.next (b12))
  have Ml := Lib.hid (Ll.out.next (b12))
  have Mm := Lib.hid (Lm.out.next (b12))
  clear Lz0 Ll Lm
  have Lz0 := Lib.hid Mz0.out
  have Ll := Lib.hid Ml.out
  have Lm := Lib.hid Mm.out
  clear Mz0 Ml Mm
  have BB' := Lib.hid (chain BB.out (b12))
  clear BB
  have BB := Lib.hid BB'.out
  clear BB'
  clear b12
  have Qd := Lib.hid (Pd.out.next (Below.new1 (.cells #[.string (mkB [97, 98]), .string (mkB [])] 9)))
  have Id := Lib.hid (Hd.out.next (Below.new1 (.cells #[.string (mkB [97, 98]), .string (mkB [])] 9)))
  have Qa := Lib.hid (Pa.out.next (Below.new1 (.cells #[.string (mkB [97, 98]), .string (mkB [])] 9)))
  have Ia := Lib.hid (Ha.out.next (Below.new1 (.cells #[.string (mkB [97, 98]), .string (mkB [])] 9)))
  have Qb := Lib.hid (Pb.out.next (Below.new1 (.cells #[.string (mkB [97, 98]), .string (mkB [])] 9)))
  have Ib := Lib.hid (Hb.out.next (Below.new1 (.cells #[.string (mkB [97, 98]), .string (mkB [])] 9)))
  have Qc := Lib.hid (Pc.out.next (Below.new1 (.cells #[.string (mkB [97, 98]), .string (mkB [])] 9)))
  have Ic := Lib.hid (Hc.out.next (Below.new1 (.cells #[.string (mkB [97, 98]), .string (mkB [])] 9)))
  have Qx := Lib.hid (Px.out.next (Below.new1 (.cells #[.string (mkB [97, 98]), .string (mkB [])] 9)))
  have Ix := Lib.hid (Hx.out.next (Below.new1 (.cells #[.string (mkB [97, 98]), .string (mkB [])] 9)))
  have Qy := Lib.hid (Py.out.next (Below.new1 (.cells #[.string (mkB [97, 98]), .string (mkB [])] 9)))
  have Iy := Lib.hid (Hy.out.next (Below.new1 (.cells #[.string (mkB [97, 98]), .string (mkB [])] 9)))
  have Qz := Lib.hid (Pz.out.next (Below.new1 (.cells #[.string (mkB [97, 98]), .string (mkB [])] 9)))
  have Iz := Lib.hid (Hz.out.next (Below.new1 (.cells #[.string (mkB [97, 98]), .string (mkB [])] 9)))
  clear Pd Hd Pa Ha Pb Hb Pc Hc Px Hx Py Hy Pz Hz
  have Pd := Lib.hid Qd.out
  have Hd := Lib.hid Id.out
  have Pa := Lib.hid Qa.out
  have Ha := Lib.hid Ia.out
  have Pb := Lib.hid Qb.out
  have Hb := Lib.hid Ib.out
  have Pc := Lib.hid Qc.out
  have Hc := Lib.hid Ic.out
  have Px := Lib.hid Qx.out
  have Hx := Lib.hid Ix.out
  have Py := Lib.hid Qy.out
  have Hy := Lib.hid Iy.out
  have Pz := Lib.hid Qz.out
  have Hz := Lib.hid Iz.out
  clear Qd Id Qa Ia Qb Ib Qc Ic Qx Ix Qy Iy Qz Iz
  have Mz0 := Lib.hid (Lz0.out.next (Below.new1 (.cells #[.string (mkB [97, 98]), .string (mkB [])] 9)))
  have Ml := Lib.hid (Ll.out.next (Below.new1 (.cells #[.string (mkB [97, 98]), .string (mkB [])] 9)))
  have Mm := Lib.hid (Lm.out.next (Below.new1 (.cells #[.string (mkB [97, 98]), .string (mkB [])] 9)))
  clear Lz0 Ll Lm
  have Lz0 := Lib.hid Mz0.out
  have Ll := Lib.hid Ml.out
  have Lm := Lib.hid Mm.out
  clear Mz0 Ml Mm
  have BB' := Lib.hid (chain BB.out (Below.new1 (.cells #[.string (mkB [97, 98]), .string (mkB [])] 9)))
  clear BB
  have BB := Lib.hid BB'.out
  clear BB'
  have Lt := Lib.hid (lat_two w12 9 [97, 98] [])
  have HC := Lib.hid (same_b (t := true) Ll.out Lt.out (by decide) (by decide) (by decide))
  go_wp2_with fail
  refine HC.out.mono ?_
  rintro r w13 ⟨rfl, b13⟩
  clear HC
  have Qd := Lib.hid (Pd.out.next (b13))
  have Id := Lib.hid (Hd.out.next (b13))
  have Qa := Lib.hid (Pa.out.next (b13))
  have Ia := Lib.hid (Ha.out.next (b13))
  have Qb := Lib.hid (Pb.out.next (b13))
  have Ib := Lib.hid (Hb.out.next (b13))
  have Qc := Lib.hid (Pc.out.next (b13))
  have Ic := Lib.hid (Hc.out.next (b13))
  have Qx := Lib.hid (Px.out.next (b13))
  have Ix := Lib.hid (Hx.out.next (b13))
  have Qy := Lib.hid (Py.out.next (b13))
  have Iy := Lib.hid (Hy.out.next (b13))
  have Qz := Lib.hid (Pz.out.next (b13))
  have Iz := Lib.hid (Hz.out.next (b13))
  clear Pd Hd Pa Ha Pb Hb Pc Hc Px Hx Py Hy Pz Hz
  have Pd := Lib.hid Qd.out
  have Hd := Lib.hid Id.out
  have Pa := Lib.hid Qa.out
  have Ha := Lib.hid Ia.out
  have Pb := Lib.hid Qb.out
  have Hb := Lib.hid Ib.out
  have Pc := Lib.hid Qc.out
  have Hc := Lib.hid Ic.out
  have Px := Lib.hid Qx.out
  have Hx := Lib.hid Ix.out
  have Py := Lib.hid Qy.out
  have Hy := Lib.hid Iy.out
  have Pz := Lib.hid Qz.out
  have Hz := Lib.hid Iz.out
  clear Qd Id Qa Ia Qb Ib Qc Ic Qx Ix Qy Iy Qz Iz
  have Mz0 := Lib.hid (Lz0.out.next (b13))
  have Ml := Lib.hid (Ll.out.next (b13))
  have Mm := Lib.hid (Lm.out.next (b13))
  have Mt := Lib.hid (Lt.out.next (b13))
  clear Lz0 Ll Lm Lt
  have Lz0 := Lib.hid Mz0.out
  have Ll := Lib.hid Ml.out
  have Lm := Lib.hid Mm.out
  have Lt := Lib.hid Mt.out
  clear Mz0 Ml Mm Mt
  have BB' := Lib.hid (chain BB.out (b13))
  clear BB
  have BB := Lib.hid BB'.out
  clear BB'
  clear b13
  have HC := Lib.hid (same_b (t := true) Lm.out Ll.out (by decide) (by decide) (by decide))
  go_wp2_with fail
  refine HC.out.mono ?_
  rintro r w14 ⟨rfl, b14⟩
  clear HC
  have Qd := Lib.hid (Pd.out.next (b14))
  have Id := Lib.hid (Hd.out.next (b14))
  have Qa := Lib.hid (Pa.out.next (b14))
  have Ia := Lib.hid (Ha.out.next (b14))
  have Qb := Lib.hid (Pb.out.next (b14))
  have Ib := Lib.hid (Hb.out.next (b14))
  have Qc := Lib.hid (Pc.out.next (b14))
  have Ic := Lib.hid (Hc.out.next (b14))
  have Qx := Lib.hid (Px.out.next (b14))
  have Ix := Lib.hid (Hx.out.next (b14))
  have Qy := Lib.hid (Py.out.next (b14))
  have Iy := Lib.hid (Hy.out.next (b14))
  have Qz := Lib.hid (Pz.out.next (b14))
  have Iz := Lib.hid (Hz.out.next (b14))
  clear Pd Hd Pa Ha Pb Hb Pc Hc Px Hx Py Hy Pz Hz
  have Pd := Lib.hid Qd.out
  have Hd := Lib.hid Id.out
  have Pa := Lib.hid Qa.out
  have Ha := Lib.hid Ia.out
  have Pb := Lib.hid Qb.out
  have Hb := Lib.hid Ib.out
  have Pc := Lib.hid Qc.out
  have Hc := Lib.hid Ic.out
  have Px := Lib.hid Qx.out
  have Hx := Lib.hid Ix.out
  have Py := Lib.hid Qy.out
  have Hy := Lib.hid Iy.out
  have Pz := Lib.hid Qz.out
  have Hz := Lib.hid Iz.out
  clear Qd Id Qa Ia Qb Ib Qc Ic Qx Ix Qy Iy Qz Iz
  have Mz0 := Lib.hid (Lz0.out.next (b14))
  have Ml := Lib.hid (Ll.out.next (b14))
  have Mm := Lib.hid (Lm.out.next (b14))
  have Mt := Lib.hid (Lt.out.next (b14))
  clear Lz0 Ll Lm Lt
  have Lz0 := Lib.hid Mz0.out
  have Ll := Lib.hid Ml.out
  have Lm := Lib.hid Mm.out
  have Lt := Lib.hid Mt.out
  clear Mz0 Ml Mm Mt
  have BB' := Lib.hid (chain BB.out (b14))
  clear BB
  have BB := Lib.hid BB'.out
  clear BB'
  clear b14
  have hq : ((mkB [97, 98]).toList == [97, 98]) = true := by rw [show (mkB [97, 98]).toList = [97, 98] from toList_mk _]; rfl
  go_wp2_with fail
  go_ret
  exact ⟨by rfl, BB.out⟩

end Go.Proofs.YtemldlhhlneleaaDoor.Jn
