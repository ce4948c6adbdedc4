/-
  DiskTears.
-/
import Derived.Test.YtcbeodhopimmlaaFlushesW
import Derived.Test.YtcbeodhopimmlaaReadsW
namespace Go.Proofs.Ytcbeodhopimmlaa
open Go.RowKit Dk

theorem DAt.cap {W : World} {sv : Value} {b : Option Addr} {n c : Nat} {l : Int} {dn : Bool} {d : D} (h : DAt W (.agg #[sv, .slice b n c, .int .i64 l, .bool dn]) d) : n ≤ c := by
  obtain ⟨a, c1, b2, c2, e, -, h2, -, -⟩ := h.form
  simp at e
  omega
theorem DAt.few {W : World} {sv : Value} {b : Option Addr} {n c : Nat} {l : Int} {dn : Bool} {d : D} (h : DAt W (.agg #[sv, .slice b n c, .int .i64 l, .bool dn]) d) {m : Nat} (hm : m ≤ d.pend.length) :
    DAt W (.agg #[sv, .slice b m c, .int .i64 (-1), .bool dn]) ⟨d.secs, d.pend.take m, -1, d.down⟩ := by
  obtain ⟨sv', pv', e, h1, ⟨a2, c2, rfl, h3, h4⟩⟩ := h
  simp at e
  obtain ⟨rfl, ⟨rfl, rfl, rfl⟩, rfl, rfl⟩ := e
  refine ⟨_, _, rfl, h1, ⟨b, c, by rw [List.length_take, Nat.min_eq_left hm], by rw [List.length_take]; omega, fun j p hj => ?_⟩⟩
  have hlt := (List.getElem?_eq_some_iff.1 hj).1
  rw [List.length_take] at hlt
  rw [List.getElem?_take_of_lt (by omega)] at hj
  exact h4 j p hj
theorem DAt.pend_cell {W : World} {sv : Value} {b : Option Addr} {n c : Nat} {l : Int} {dn : Bool} {d : D} (h : DAt W (.agg #[sv, .slice b n c, .int .i64 l, .bool dn]) d) {j : Nat} {p : Int × B} (hj : d.pend[j]? = some p) :
    ∃ g off, b = some ⟨g, off, none⟩ ∧ g < W.heap.size ∧ W.cell? ⟨g, off + j * 2, none⟩ = some (.int .i64 p.1) ∧ W.cell? ⟨g, off + j * 2 + 1, none⟩ = some (.string p.2) := by
  obtain ⟨sv', pv', e, h1, ⟨a2, c2, rfl, h3, h4⟩⟩ := h
  simp at e
  obtain ⟨rfl, ⟨rfl, rfl, rfl⟩, rfl, rfl⟩ := e
  exact h4 j p hj
theorem torn_lo {a b : B} {k : Nat} (hb : b.size = 16) (ha : a.size = 16) (hk : k < 8) (h1 : k < (torn a b).size) (h2 : k < a.size) : (torn a b)[k] = a[k] := by
  refine ba_of h1 ?_
  have hl : (a.data.toList.take 8).length = 8 := by rw [List.length_take]; have : a.data.toList.length = 16 := ha; omega
  rw [torn_list hb, List.getElem?_append_left (by omega), List.getElem?_take_of_lt hk]
  exact ba_list h2
theorem torn_hi {a b : B} {k : Nat} (hb : b.size = 16) (ha : a.size = 16) (hk : 8 ≤ k) (h1 : k < (torn a b).size) (h2 : k < b.size) : (torn a b)[k] = b[k] := by
  refine ba_of h1 ?_
  have hl : (a.data.toList.take 8).length = 8 := by rw [List.length_take]; have : a.data.toList.length = 16 := ha; omega
  rw [torn_list hb, List.getElem?_append_right (by omega), List.getElem?_drop, hl, show 8 + (k - 8) = k by omega]
  exact ba_list h2
theorem arm_ok {d : D} {n : Int} (h : checkB d = true) (hd : d.down = false) (hn : 0 ≤ n ∧ n ≤ 512) : armV d n = (⟨d.secs, d.pend, n, d.down⟩, 0) := by unfold armV; rw [if_pos (upE_zero.2 ⟨h, hd⟩), if_pos hn]
theorem tear_ok {d : D} (h : checkB d = true) (hd : d.down = false) (hl : 0 ≤ d.left ∧ d.left < (d.pend.length : Int)) : flV d = (tearD d, 8) := by unfold flV; rw [if_pos (upE_zero.2 ⟨h, hd⟩), if_pos hl]

set_option maxHeartbeats 25600000 in
set_option maxRecDepth 100000 in
theorem tears_x (ok : DiskOk) (sm : SmallOk) (v : Value) (d : D) (a : Nat) (w : World) (h : DAt w v d) (hf : FitW d) (ha : a < 256) :
    Calls Try.prog 6 #[v, .int .u8 (a : Int)] w fun r w' => r = .returned (.bool true) ∧ Below w.heap.size w w' := by
  obtain ⟨qa, qc, qb, qe, rfl, -, -, -, -⟩ := h.form
  have Pd := Lib.hid (Vr.new (w := w) h (Nat.le_refl _) 25)
  have HF := Lib.hid hf
  have BP : Hid (Below w.heap.size w (w.alloc (.cells #[.slice qa d.secs.length qc, .slice qb d.pend.length qe, .int .i64 d.left, .bool d.down] 25))) := Below.new1 _
  have dl1 := hf.left.1
  have dl2 := hf.left.2
  clear h hf
  go_enter Try.func6, Try.ntmps6
  go_wp2_with fail
  refine (sm _).mono ?_
  rintro r w1 ⟨rfl, b1⟩
  have Vd := Lib.hid (Pd.out.next b1)
  have BW1 := Lib.hid (chain BP.out b1)
  clear Pd BP b1
  have Pd := Lib.hid Vd.out
  have BP := Lib.hid BW1.out
  clear Vd
  obtain ⟨ad, cd, bd, ed, hBd, hDd⟩ := Pd.out.ex
  have xd0 := hBd.c0
  have xd1 := hBd.c1
  have xd2 := hBd.c2
  have xd3 := hBd.c3
  have xdl := hBd.lt
  have HDd := Lib.hid hDd
  clear hBd hDd
  go_wp2_with fail
  refine (right_x _ d _ HDd.out HF.out).mono ?_
  rintro r w2 ⟨rfl, b2⟩
  obtain ⟨okd, hok⟩ : ∃ x, okB d = x := ⟨_, rfl⟩
  rw [hok]
  have HOK := Lib.hid hok
  clear hok
  clear xd0 xd1 xd2 xd3 xdl HDd
  have Z2 : Hid (w1.heap.size ≤ w2.heap.size) := b2.size
  have Vd := Lib.hid (Pd.out.next b2)
  have BW2 : Hid (Below w.heap.size w w2) := chain BP.out b2
  clear BP
  clear Pd
  have NE_0_2 : Hid (w.heap.size < w2.heap.size) := Nat.lt_of_lt_of_le (Vd.out.lt) (Nat.le_refl _)
  clear b2
  have Pd := Lib.hid Vd.out
  have BP := Lib.hid BW2.out
  clear Vd
  obtain ⟨ad, cd, bd, ed, hBd, hDd⟩ := Pd.out.ex
  have xd0 := hBd.c0
  have xd1 := hBd.c1
  have xd2 := hBd.c2
  have xd3 := hBd.c3
  have xdl := hBd.lt
  have HDd := Lib.hid hDd
  clear hBd hDd
  cases okd with
  | false =>
    go_wp2_with fail
    go_ret
    exact ⟨rfl, BP.out⟩
  | true =>
    by_cases t2 : d.pend = []
    case pos =>
      have f2 : ((d.pend.length : Int) == 0) = true := by rw [t2]; rfl
      go_wp2_with fail
      go_ret
      exact ⟨rfl, BP.out⟩
    case neg =>
      have pl : 0 < d.pend.length := List.length_pos_iff.2 t2
      have f2 : ((d.pend.length : Int) == 0) = false := by simp; exact t2
      obtain ⟨⟨hs1, hs2⟩, hck, hdn⟩ := ok_iff.1 HOK.out
      obtain ⟨⟨c1, c2, c3, c4, c5⟩, hsz, hpd, -⟩ := check_iff.1 hck
      obtain ⟨n, hn⟩ : ∃ n : Nat, (a : Int) % (d.pend.length : Int) = (n : Int) := ⟨a % d.pend.length, by omega⟩
      have nl : n < d.pend.length := by have := Int.emod_lt_of_pos (a : Int) (show (0 : Int) < (d.pend.length : Int) by omega); omega
      have n0 : (0 : Int) ≤ (n : Int) := by omega
      have n1 : (n : Int) < (d.pend.length : Int) := by omega
      have lp : (0 : Int) < (d.pend.length : Int) := by omega
      have i6 : I64 (n : Int) := by unfold I64; omega
      obtain ⟨p, hp⟩ : ∃ p, d.pend[n]? = some p := ⟨_, List.getElem?_eq_getElem nl⟩
      obtain ⟨p0, p1, p2⟩ := hpd p (List.mem_of_getElem? hp)
      obtain ⟨m', t⟩ := p
      simp only at p0 p1 p2
      obtain ⟨m, rfl⟩ := Int.eq_ofNat_of_zero_le p0
      have mN : m < d.secs.length := by omega
      obtain ⟨L1, hL1⟩ : ∃ x, perf d.secs (d.pend.take n) = x := ⟨_, rfl⟩
      have ll1 : L1.length = d.secs.length := by rw [← hL1]; exact perf_len _ _
      obtain ⟨s0, hs0⟩ : ∃ x, L1[m]? = some x := ⟨_, List.getElem?_eq_getElem (by omega)⟩
      have z16 : s0.size = 16 := perf_size (ws := d.pend.take n) hsz (fun p hp => (hpd p (List.mem_of_mem_take hp)).2.2) _ (by rw [hL1]; exact List.mem_of_getElem? hs0)
      obtain ⟨tn, htn⟩ : ∃ x, torn t s0 = x := ⟨_, rfl⟩
      have x16 : tn.size = 16 := by rw [← htn]; exact torn_size p2 z16
      obtain ⟨L2, hL2⟩ : ∃ x, L1.set m tn = x := ⟨_, rfl⟩
      have ll2 : L2.length = d.secs.length := by rw [← hL2, List.length_set]; exact ll1
      obtain ⟨d1, hd1⟩ : ∃ x : D, x = ⟨d.secs, d.pend, (n : Int), d.down⟩ := ⟨_, rfl⟩
      obtain ⟨d2, hd2⟩ : ∃ x : D, x = ⟨L2, [], -1, true⟩ := ⟨_, rfl⟩
      obtain ⟨d3, hd3⟩ : ∃ x : D, x = ⟨L2, [], -1, false⟩ := ⟨_, rfl⟩
      obtain ⟨d4, hd4⟩ : ∃ x : D, x = ⟨d.secs, d.pend.take n, -1, d.down⟩ := ⟨_, rfl⟩
      obtain ⟨d5, hd5⟩ : ∃ x : D, x = ⟨L1, [], -1, false⟩ := ⟨_, rfl⟩
      have E1 : Hid (armV d (n : Int) = (d1, 0)) := by rw [hd1]; exact arm_ok hck hdn ⟨n0, by omega⟩
      have g1 : checkB d1 = true := by rw [hd1]; exact check_arm hck hdn ⟨by omega, by omega⟩
      have n1' : d1.down = false := by rw [hd1]; exact hdn
      have td : tearD d1 = d2 := by
        rw [hd1, hd2]
        unfold tearD tearL
        simp only [Int.toNat_natCast]
        rw [hp, hL1]
        simp only [Option.getD_some, Int.toNat_natCast]
        rw [hs0]
        simp only [Option.getD_some]
        rw [htn, hL2]
      have E2 : Hid (flV d1 = (d2, 8)) := by show _ = _; rw [tear_ok g1 n1' (by rw [hd1]; exact ⟨n0, n1⟩), td]
      have g2 : checkB d2 = true := by rw [← td]; exact check_tear (w := ((m : Int), t)) g1 (by rw [hd1]; simp only [Int.toNat_natCast]; exact hp)
      have E3 : Hid (stV d2 = (d3, 0)) := by show _ = _; rw [st_ok g2 (by rw [hd2]), hd2, hd3]
      have g3 : checkB d3 = true := by have hz := check_start g2; rw [hd2] at hz; rw [hd3]; exact hz
      have n3 : d3.down = false := by rw [hd3]
      have V3 : Hid (view d3 = L2) := by show _ = _; rw [hd3]; rfl
      have g4 : checkB d4 = true := by rw [hd4]; exact check_few hck hdn n
      have n4 : d4.down = false := by rw [hd4]; exact hdn
      have E4 : Hid (flV d4 = (d5, 0)) := by
        show _ = _
        rw [fl_ok g4 n4 (by rw [hd4]; show ¬ (0 ≤ (-1 : Int) ∧ _); omega), flush_none (by rw [hd4]), hd4, hd5]
        show (_, _) = _
        rw [hL1]
      have g5 : checkB d5 = true := by
        have hz := check_flush g4 (by rw [hd4]; show ¬ (0 ≤ (-1 : Int) ∧ _); omega)
        rw [flush_none (by rw [hd4]), hd4] at hz
        simp only at hz
        rw [hL1] at hz
        rw [hd5]
        exact hz
      have n5 : d5.down = false := by rw [hd5]
      have V5 : Hid (view d5 = L1) := by show _ = _; rw [hd5]; rfl
      have D4 : Hid ((⟨d.secs, d.pend.take n, -1, d.down⟩ : D) = d4) := hd4.symm
      have f4 : ((L2.length : Int) != (L1.length : Int)) = false := by rw [ll1, ll2]; simp
      have PE : Hid (d3.pend.length = 0) := by show _ = _; rw [hd3]; rfl
      have f6 : (d3.left != -1) = false := by rw [hd3]; rfl
      have LL1 := Lib.hid ll1
      have LL2 := Lib.hid ll2
      have FD := Lib.hid (fit_right hck)
      have FD1 := Lib.hid (fit_right g1)
      have FD2 := Lib.hid (fit_right g2)
      have FD4 := Lib.hid (fit_right g4)
      have CK3 := Lib.hid g3
      have DN3 := Lib.hid n3
      have CK5 := Lib.hid g5
      have DN5 := Lib.hid n5
      have hc2 : Hid (chk d2 = 0) := chk_yes g2
      have X16 := Lib.hid x16
      have T16 := Lib.hid p2
      have Z16 := Lib.hid z16
      have TLO : Hid (∀ k (_ : k < 8) (h1 : k < tn.size) (h2 : k < t.size), tn[k] = t[k]) := by intro k hk h1 h2; subst htn; exact torn_lo z16 p2 hk h1 h2
      have THI : Hid (∀ k (_ : 8 ≤ k) (h1 : k < tn.size) (h2 : k < s0.size), tn[k] = s0[k]) := by intro k hk h1 h2; subst htn; exact torn_hi z16 p2 hk h1 h2
      have S16 : Hid (∀ x ∈ L1, x.size = 16) := by show ∀ x ∈ L1, _; rw [← hL1]; exact perf_size (ws := d.pend.take n) hsz (fun p hp => (hpd p (List.mem_of_mem_take hp)).2.2)
      have LG : Hid (∀ i x, i ≠ m → L1[i]? = some x → L2[i]? = some x) := by intro i x hi hx; rw [← hL2, List.getElem?_set_ne (fun e => hi e.symm)]; exact hx
      have LK : Hid (L2[m]? = some tn) := by show _ = _; rw [← hL2, List.getElem?_set_self (by omega)]
      have LK0 := Lib.hid hs0
      have HP0 := Lib.hid hp
      have HN0 := Lib.hid hn
      clear hd1 hd2 hd3 hd4 hd5 g1 g2 g3 g4 g5 n1' n3 n4 n5 td hck hdn hsz hpd hL1 hL2 ll1 ll2 hs0 z16 x16 htn hp p0 p1 p2 t2
      clear xd0 xd1 xd2 xd3 xdl HDd
      obtain ⟨ad, cd, bd, ed, hBd, hDd⟩ := Pd.out.ex
      have xd0 := hBd.c0
      have xd1 := hBd.c1
      have xd2 := hBd.c2
      have xd3 := hBd.c3
      have xdl := hBd.lt
      have HDd := Lib.hid hDd
      clear hBd hDd
      have HC := Lib.hid (conv_d (ok.arm _ d (n : Int) _ HDd.out FD.out i6) E1.out)
      go_wp2_with fail
      refine HC.out.mono ?_
      rintro r w3 ⟨sa3, sc3, pa3, pc3, rfl, h3, b3⟩
      clear HC
      clear xd0 xd1 xd2 xd3 xdl HDd
      have Z3 : Hid (w2.heap.size ≤ w3.heap.size) := b3.size
      have Vd := Lib.hid (Pd.out.next b3)
      have BW3 : Hid (Below w.heap.size w w3) := chain BP.out b3
      clear BP
      clear Pd
      have NE_0_3 : Hid (w.heap.size < w3.heap.size) := Nat.lt_of_lt_of_le (Vd.out.lt) (Nat.le_refl _)
      have H3 := Lib.hid h3
      clear h3 b3
      have Pd := Lib.hid (Vd.out.next (Below.new1 (.cells #[(.slice sa3 (d1).secs.length sc3), (.slice pa3 (d1).pend.length pc3), .int .i64 d1.left, .bool d1.down] 25)))
      have Pb := Lib.hid (Vr.new (w := w) H3.out BW3.out.size 25)
      have BP : Hid (Below w.heap.size w (w3.alloc (.cells #[(.slice sa3 (d1).secs.length sc3), (.slice pa3 (d1).pend.length pc3), .int .i64 d1.left, .bool d1.down] 25))) := chain BW3.out (Below.new1 _)
      have zs3 : (w3.alloc (.cells #[(.slice sa3 (d1).secs.length sc3), (.slice pa3 (d1).pend.length pc3), .int .i64 d1.left, .bool d1.down] 25)).heap.size = w3.heap.size + 1 := by simp
      have ZS3 := Lib.hid zs3
      clear zs3
      clear Vd
      obtain ⟨ab, cb, bb, eb, hBb, hDb⟩ := Pb.out.ex
      have xb0 := hBb.c0
      have xb1 := hBb.c1
      have xb2 := hBb.c2
      have xb3 := hBb.c3
      have xbl := hBb.lt
      have HDb := Lib.hid hDb
      clear hBb hDb
      have HC := Lib.hid (conv_d (ok.flush _ d1  _ HDb.out FD1.out) E2.out)
      go_wp2_with fail
      refine HC.out.mono ?_
      rintro r w4 ⟨sa4, sc4, pa4, pc4, rfl, h4, b4⟩
      clear HC
      clear xb0 xb1 xb2 xb3 xbl HDb
      have Z4 : Hid ((w3.alloc (.cells #[(.slice sa3 (d1).secs.length sc3), (.slice pa3 (d1).pend.length pc3), .int .i64 d1.left, .bool d1.down] 25)).heap.size ≤ w4.heap.size) := b4.size
      have Vd := Lib.hid (Pd.out.next b4)
      have Vb := Lib.hid (Pb.out.next b4)
      have BW4 : Hid (Below w.heap.size w w4) := chain BP.out b4
      clear BP
      clear Pd Pb
      have NE_0_4 : Hid (w.heap.size < w4.heap.size) := Nat.lt_of_lt_of_le (Vd.out.lt) (Nat.le_refl _)
      have NE_3_4 : Hid (w3.heap.size < w4.heap.size) := Nat.lt_of_lt_of_le (Vb.out.lt) (Nat.le_refl _)
      have H4 := Lib.hid h4
      clear h4 b4
      have Pd := Lib.hid (Vd.out.next (Below.new1 (.cells #[(.slice sa4 (d2).secs.length sc4), (.slice pa4 (d2).pend.length pc4), .int .i64 d2.left, .bool d2.down] 25)))
      have Pb := Lib.hid (Vb.out.next (Below.new1 (.cells #[(.slice sa4 (d2).secs.length sc4), (.slice pa4 (d2).pend.length pc4), .int .i64 d2.left, .bool d2.down] 25)))
      have Pc := Lib.hid (Vr.new (w := w) H4.out BW4.out.size 25)
      have BP : Hid (Below w.heap.size w (w4.alloc (.cells #[(.slice sa4 (d2).secs.length sc4), (.slice pa4 (d2).pend.length pc4), .int .i64 d2.left, .bool d2.down] 25))) := chain BW4.out (Below.new1 _)
      have zs4 : (w4.alloc (.cells #[(.slice sa4 (d2).secs.length sc4), (.slice pa4 (d2).pend.length pc4), .int .i64 d2.left, .bool d2.down] 25)).heap.size = w4.heap.size + 1 := by simp
      have ZS4 := Lib.hid zs4
      clear zs4
      clear Vd Vb
      obtain ⟨ac, cc, bc, ec, hBc, hDc⟩ := Pc.out.ex
      have xc0 := hBc.c0
      have xc1 := hBc.c1
      have xc2 := hBc.c2
      have xc3 := hBc.c3
      have xcl := hBc.lt
      have HDc := Lib.hid hDc
      clear hBc hDc
      have HC := Lib.hid (conv_d (ok.start _ d2  _ HDc.out FD2.out) E3.out)
      go_wp2_with fail
      refine HC.out.mono ?_
      rintro r w5 ⟨sa5, sc5, pa5, pc5, rfl, h5, b5⟩
      clear HC
      clear xc0 xc1 xc2 xc3 xcl HDc
      have Z5 : Hid ((w4.alloc (.cells #[(.slice sa4 (d2).secs.length sc4), (.slice pa4 (d2).pend.length pc4), .int .i64 d2.left, .bool d2.down] 25)).heap.size ≤ w5.heap.size) := b5.size
      have Vd := Lib.hid (Pd.out.next b5)
      have Vb := Lib.hid (Pb.out.next b5)
      have Vc := Lib.hid (Pc.out.next b5)
      have BW5 : Hid (Below w.heap.size w w5) := chain BP.out b5
      clear BP
      clear Pd Pb Pc
      have NE_0_5 : Hid (w.heap.size < w5.heap.size) := Nat.lt_of_lt_of_le (Vd.out.lt) (Nat.le_refl _)
      have NE_3_5 : Hid (w3.heap.size < w5.heap.size) := Nat.lt_of_lt_of_le (Vb.out.lt) (Nat.le_refl _)
      have NE_4_5 : Hid (w4.heap.size < w5.heap.size) := Nat.lt_of_lt_of_le (Vc.out.lt) (Nat.le_refl _)
      have H5 := Lib.hid h5
      clear h5 b5
      have Pd := Lib.hid (Vd.out.next (Below.new1 (.cells #[(.slice sa5 (d3).secs.length sc5), (.slice pa5 (d3).pend.length pc5), .int .i64 d3.left, .bool d3.down] 25)))
      have Pb := Lib.hid (Vb.out.next (Below.new1 (.cells #[(.slice sa5 (d3).secs.length sc5), (.slice pa5 (d3).pend.length pc5), .int .i64 d3.left, .bool d3.down] 25)))
      have Pc := Lib.hid (Vc.out.next (Below.new1 (.cells #[(.slice sa5 (d3).secs.length sc5), (.slice pa5 (d3).pend.length pc5), .int .i64 d3.left, .bool d3.down] 25)))
      have Pe := Lib.hid (Vr.new (w := w) H5.out BW5.out.size 25)
      have BP : Hid (Below w.heap.size w (w5.alloc (.cells #[(.slice sa5 (d3).secs.length sc5), (.slice pa5 (d3).pend.length pc5), .int .i64 d3.left, .bool d3.down] 25))) := chain BW5.out (Below.new1 _)
      have zs5 : (w5.alloc (.cells #[(.slice sa5 (d3).secs.length sc5), (.slice pa5 (d3).pend.length pc5), .int .i64 d3.left, .bool d3.down] 25)).heap.size = w5.heap.size + 1 := by simp
      have ZS5 := Lib.hid zs5
      clear zs5
      clear Vd Vb Vc
      obtain ⟨ae, ce, be, ee, hBe, hDe⟩ := Pe.out.ex
      have xe0 := hBe.c0
      have xe1 := hBe.c1
      have xe2 := hBe.c2
      have xe3 := hBe.c3
      have xel := hBe.lt
      have HDe := Lib.hid hDe
      clear hBe hDe
      have HC := Lib.hid (conv_v (contents_x ok _ d3 _ HDe.out CK3.out DN3.out) V3.out)
      go_wp2_with fail
      refine HC.out.mono ?_
      rintro r w6 ⟨us, ts, rfl, h6, b6⟩
      clear HC
      clear xe0 xe1 xe2 xe3 xel HDe
      have Z6 : Hid ((w5.alloc (.cells #[(.slice sa5 (d3).secs.length sc5), (.slice pa5 (d3).pend.length pc5), .int .i64 d3.left, .bool d3.down] 25)).heap.size ≤ w6.heap.size) := b6.size
      have Vd := Lib.hid (Pd.out.next b6)
      have Vb := Lib.hid (Pb.out.next b6)
      have Vc := Lib.hid (Pc.out.next b6)
      have Ve := Lib.hid (Pe.out.next b6)
      have BW6 : Hid (Below w.heap.size w w6) := chain BP.out b6
      clear BP
      clear Pd Pb Pc Pe
      have NE_0_6 : Hid (w.heap.size < w6.heap.size) := Nat.lt_of_lt_of_le (Vd.out.lt) (Nat.le_refl _)
      have NE_3_6 : Hid (w3.heap.size < w6.heap.size) := Nat.lt_of_lt_of_le (Vb.out.lt) (Nat.le_refl _)
      have NE_4_6 : Hid (w4.heap.size < w6.heap.size) := Nat.lt_of_lt_of_le (Vc.out.lt) (Nat.le_refl _)
      have NE_5_6 : Hid (w5.heap.size < w6.heap.size) := Nat.lt_of_lt_of_le (Ve.out.lt) (Nat.le_refl _)
      have Ws := Lib.hid h6
      clear h6 b6
      have Qs := Lib.hid Ws.out
      clear Ws
      have Pd := Lib.hid Vd.out
      have Pb := Lib.hid Vb.out
      have Pc := Lib.hid Vc.out
      have Pe := Lib.hid Ve.out
      have BP := Lib.hid BW6.out
      clear Vd Vb Vc Ve
      obtain ⟨ad, cd, bd, ed, hBd, hDd⟩ := Pd.out.ex
      have xd0 := hBd.c0
      have xd1 := hBd.c1
      have xd2 := hBd.c2
      have xd3 := hBd.c3
      have xdl := hBd.lt
      have HDd := Lib.hid hDd
      clear hBd hDd
      obtain ⟨gq, oq, ebq, gq1, gq2, gq3⟩ := HDd.out.pend_cell HP0.out
      subst ebq
      have cq := HDd.out.cap
      have cq2 : n ≤ ed := by omega
      have DF := Lib.hid (HDd.out.few (m := n) (by omega))
      rw [D4.out] at DF
      clear gq1 gq2 gq3
      have HC := Lib.hid (conv_d (ok.flush _ d4 _ (DF.out.next (Below.new1 (.cells #[.slice ad d.secs.length cd, .slice (some ⟨gq, oq, none⟩) n ed, .int .i64 (-1), .bool d.down] 25))) FD4.out) E4.out)
      go_wp2_with fail
      refine HC.out.mono ?_
      rintro r w7 ⟨sa7, sc7, pa7, pc7, rfl, h7, b7⟩
      clear HC
      have Ud := Lib.hid (Pd.out.next (Below.new1 (.cells #[.slice ad d.secs.length cd, .slice (some ⟨gq, oq, none⟩) n ed, .int .i64 (-1), .bool d.down] 25)))
      clear Pd
      have Pd := Lib.hid Ud.out
      clear Ud
      have Ub := Lib.hid (Pb.out.next (Below.new1 (.cells #[.slice ad d.secs.length cd, .slice (some ⟨gq, oq, none⟩) n ed, .int .i64 (-1), .bool d.down] 25)))
      clear Pb
      have Pb := Lib.hid Ub.out
      clear Ub
      have Uc := Lib.hid (Pc.out.next (Below.new1 (.cells #[.slice ad d.secs.length cd, .slice (some ⟨gq, oq, none⟩) n ed, .int .i64 (-1), .bool d.down] 25)))
      clear Pc
      have Pc := Lib.hid Uc.out
      clear Uc
      have Ue := Lib.hid (Pe.out.next (Below.new1 (.cells #[.slice ad d.secs.length cd, .slice (some ⟨gq, oq, none⟩) n ed, .int .i64 (-1), .bool d.down] 25)))
      clear Pe
      have Pe := Lib.hid Ue.out
      clear Ue
      have Us := Lib.hid (Qs.out.next (Below.new1 (.cells #[.slice ad d.secs.length cd, .slice (some ⟨gq, oq, none⟩) n ed, .int .i64 (-1), .bool d.down] 25)))
      clear Qs
      have Qs := Lib.hid Us.out
      clear Us
      have UB : Hid (Below w.heap.size w (w6.alloc (.cells #[.slice ad d.secs.length cd, .slice (some ⟨gq, oq, none⟩) n ed, .int .i64 (-1), .bool d.down] 25))) := chain BP.out (Below.new1 _)
      clear BP
      have BP := Lib.hid UB.out
      clear UB
      clear xd0 xd1 xd2 xd3 xdl HDd
      have Z7 : Hid ((w6.alloc (.cells #[.slice ad d.secs.length cd, .slice (some ⟨gq, oq, none⟩) n ed, .int .i64 (-1), .bool d.down] 25)).heap.size ≤ w7.heap.size) := b7.size
      have Ws := Lib.hid (Qs.out.next (b7))
      clear Qs
      have Vd := Lib.hid (Pd.out.next b7)
      have Vb := Lib.hid (Pb.out.next b7)
      have Vc := Lib.hid (Pc.out.next b7)
      have Ve := Lib.hid (Pe.out.next b7)
      have BW7 : Hid (Below w.heap.size w w7) := chain BP.out b7
      clear BP
      clear Pd Pb Pc Pe
      have NE_0_7 : Hid (w.heap.size < w7.heap.size) := Nat.lt_of_lt_of_le (Vd.out.lt) (Nat.le_refl _)
      have NE_3_7 : Hid (w3.heap.size < w7.heap.size) := Nat.lt_of_lt_of_le (Vb.out.lt) (Nat.le_refl _)
      have NE_4_7 : Hid (w4.heap.size < w7.heap.size) := Nat.lt_of_lt_of_le (Vc.out.lt) (Nat.le_refl _)
      have NE_5_7 : Hid (w5.heap.size < w7.heap.size) := Nat.lt_of_lt_of_le (Ve.out.lt) (Nat.le_refl _)
      have H7 := Lib.hid h7
      clear h7 b7
      have Pd := Lib.hid (Vd.out.next (Below.new1 (.cells #[(.slice sa7 (d5).secs.length sc7), (.slice pa7 (d5).pend.length pc7), .int .i64 d5.left, .bool d5.down] 25)))
      have Pb := Lib.hid (Vb.out.next (Below.new1 (.cells #[(.slice sa7 (d5).secs.length sc7), (.slice pa7 (d5).pend.length pc7), .int .i64 d5.left, .bool d5.down] 25)))
      have Pc := Lib.hid (Vc.out.next (Below.new1 (.cells #[(.slice sa7 (d5).secs.length sc7), (.slice pa7 (d5).pend.length pc7), .int .i64 d5.left, .bool d5.down] 25)))
      have Pe := Lib.hid (Ve.out.next (Below.new1 (.cells #[(.slice sa7 (d5).secs.length sc7), (.slice pa7 (d5).pend.length pc7), .int .i64 d5.left, .bool d5.down] 25)))
      have Px := Lib.hid (Vr.new (w := w) H7.out BW7.out.size 25)
      have BP : Hid (Below w.heap.size w (w7.alloc (.cells #[(.slice sa7 (d5).secs.length sc7), (.slice pa7 (d5).pend.length pc7), .int .i64 d5.left, .bool d5.down] 25))) := chain BW7.out (Below.new1 _)
      have zs7 : (w7.alloc (.cells #[(.slice sa7 (d5).secs.length sc7), (.slice pa7 (d5).pend.length pc7), .int .i64 d5.left, .bool d5.down] 25)).heap.size = w7.heap.size + 1 := by simp
      have ZS7 := Lib.hid zs7
      clear zs7
      have Qs := Lib.hid (Ws.out.next (Below.new1 (.cells #[(.slice sa7 (d5).secs.length sc7), (.slice pa7 (d5).pend.length pc7), .int .i64 d5.left, .bool d5.down] 25)))
      clear Ws
      clear Vd Vb Vc Ve
      obtain ⟨ax, cx, bx, ex, hBx, hDx⟩ := Px.out.ex
      have xx0 := hBx.c0
      have xx1 := hBx.c1
      have xx2 := hBx.c2
      have xx3 := hBx.c3
      have xxl := hBx.lt
      have HDx := Lib.hid hDx
      clear hBx hDx
      have HC := Lib.hid (conv_v (contents_x ok _ d5 _ HDx.out CK5.out DN5.out) V5.out)
      go_wp2_with fail
      refine HC.out.mono ?_
      rintro r w8 ⟨ut, tt, rfl, h8, b8⟩
      clear HC
      clear xx0 xx1 xx2 xx3 xxl HDx
      have Z8 : Hid ((w7.alloc (.cells #[(.slice sa7 (d5).secs.length sc7), (.slice pa7 (d5).pend.length pc7), .int .i64 d5.left, .bool d5.down] 25)).heap.size ≤ w8.heap.size) := b8.size
      have Ws := Lib.hid (Qs.out.next (b8))
      clear Qs
      have Vd := Lib.hid (Pd.out.next b8)
      have Vb := Lib.hid (Pb.out.next b8)
      have Vc := Lib.hid (Pc.out.next b8)
      have Ve := Lib.hid (Pe.out.next b8)
      have Vx := Lib.hid (Px.out.next b8)
      have BW8 : Hid (Below w.heap.size w w8) := chain BP.out b8
      clear BP
      clear Pd Pb Pc Pe Px
      have NE_0_8 : Hid (w.heap.size < w8.heap.size) := Nat.lt_of_lt_of_le (Vd.out.lt) (Nat.le_refl _)
      have NE_3_8 : Hid (w3.heap.size < w8.heap.size) := Nat.lt_of_lt_of_le (Vb.out.lt) (Nat.le_refl _)
      have NE_4_8 : Hid (w4.heap.size < w8.heap.size) := Nat.lt_of_lt_of_le (Vc.out.lt) (Nat.le_refl _)
      have NE_5_8 : Hid (w5.heap.size < w8.heap.size) := Nat.lt_of_lt_of_le (Ve.out.lt) (Nat.le_refl _)
      have NE_7_8 : Hid (w7.heap.size < w8.heap.size) := Nat.lt_of_lt_of_le (Vx.out.lt) (Nat.le_refl _)
      have Wt := Lib.hid h8
      clear h8 b8
      have Qs := Lib.hid Ws.out
      have Qt := Lib.hid Wt.out
      clear Ws Wt
      have Pd := Lib.hid Vd.out
      have Pb := Lib.hid Vb.out
      have Pc := Lib.hid Vc.out
      have Pe := Lib.hid Ve.out
      have Px := Lib.hid Vx.out
      have BP := Lib.hid BW8.out
      clear Vd Vb Vc Ve Vx
      obtain ⟨ad, cd, bd, ed, hBd, hDd⟩ := Pd.out.ex
      have xd0 := hBd.c0
      have xd1 := hBd.c1
      have xd2 := hBd.c2
      have xd3 := hBd.c3
      have xdl := hBd.lt
      have HDd := Lib.hid hDd
      clear hBd hDd
      obtain ⟨ac, cc, bc, ec, hBc, hDc⟩ := Pc.out.ex
      have xc0 := hBc.c0
      have xc1 := hBc.c1
      have xc2 := hBc.c2
      have xc3 := hBc.c3
      have xcl := hBc.lt
      have HDc := Lib.hid hDc
      clear hBc hDc
      obtain ⟨ae, ce, be, ee, hBe, hDe⟩ := Pe.out.ex
      rw [PE.out] at hBe hDe
      have xe0 := hBe.c0
      have xe1 := hBe.c1
      have xe2 := hBe.c2
      have xe3 := hBe.c3
      have xel := hBe.lt
      have HDe := Lib.hid hDe
      clear hBe hDe
      have HC := Lib.hid (conv_c (ok.check _ d2 _ HDc.out FD2.out) hc2.out)
      go_wp2_with fail
      refine HC.out.mono ?_
      rintro r w9 ⟨rfl, b9⟩
      clear HC
      clear xd0 xd1 xd2 xd3 xdl HDd
      clear xc0 xc1 xc2 xc3 xcl HDc
      clear xe0 xe1 xe2 xe3 xel HDe
      have Z9 : Hid (w8.heap.size ≤ w9.heap.size) := b9.size
      have Ws := Lib.hid (Qs.out.next (b9))
      have Wt := Lib.hid (Qt.out.next (b9))
      clear Qs Qt
      have Vd := Lib.hid (Pd.out.next b9)
      have Vb := Lib.hid (Pb.out.next b9)
      have Vc := Lib.hid (Pc.out.next b9)
      have Ve := Lib.hid (Pe.out.next b9)
      have Vx := Lib.hid (Px.out.next b9)
      have BW9 : Hid (Below w.heap.size w w9) := chain BP.out b9
      clear BP
      clear Pd Pb Pc Pe Px
      have NE_0_9 : Hid (w.heap.size < w9.heap.size) := Nat.lt_of_lt_of_le (Vd.out.lt) (Nat.le_refl _)
      have NE_3_9 : Hid (w3.heap.size < w9.heap.size) := Nat.lt_of_lt_of_le (Vb.out.lt) (Nat.le_refl _)
      have NE_4_9 : Hid (w4.heap.size < w9.heap.size) := Nat.lt_of_lt_of_le (Vc.out.lt) (Nat.le_refl _)
      have NE_5_9 : Hid (w5.heap.size < w9.heap.size) := Nat.lt_of_lt_of_le (Ve.out.lt) (Nat.le_refl _)
      have NE_7_9 : Hid (w7.heap.size < w9.heap.size) := Nat.lt_of_lt_of_le (Vx.out.lt) (Nat.le_refl _)
      clear b9
      have Qs := Lib.hid Ws.out
      have Qt := Lib.hid Wt.out
      clear Ws Wt
      have Pd := Lib.hid Vd.out
      have Pb := Lib.hid Vb.out
      have Pc := Lib.hid Vc.out
      have Pe := Lib.hid Ve.out
      have Px := Lib.hid Vx.out
      have BP := Lib.hid BW9.out
      clear Vd Vb Vc Ve Vx
      obtain ⟨ad, cd, bd, ed, hBd, hDd⟩ := Pd.out.ex
      have xd0 := hBd.c0
      have xd1 := hBd.c1
      have xd2 := hBd.c2
      have xd3 := hBd.c3
      have xdl := hBd.lt
      have HDd := Lib.hid hDd
      clear hBd hDd
      obtain ⟨gz, oz, ebz, gz1, gz2, gz3⟩ := HDd.out.pend_cell HP0.out
      subst ebz
      obtain ⟨sa, sc, se, -, hs'⟩ := (Qs.out.next (Below.new1 (.cells #[.int .i64 (m : Int), .string t] 44)))
      obtain ⟨ta, tc, te, -, ht'⟩ := (Qt.out.next (Below.new1 (.cells #[.int .i64 (m : Int), .string t] 44)))
      rw [strs_len] at se te
      simp only [Value.slice.injEq] at se te
      obtain ⟨rfl, -, rfl⟩ := se
      obtain ⟨rfl, -, rfl⟩ := te
      have HS := Lib.hid hs'
      have HT := Lib.hid ht'
      have bn1 : (w9.alloc (.cells #[.int .i64 (m : Int), .string t] 44)).cell? ⟨w9.heap.size, 0, none⟩ = some (.int .i64 (m : Int)) := by rw [World.cell?_alloc_new]; rfl
      have bn2 : (w9.alloc (.cells #[.int .i64 (m : Int), .string t] 44)).cell? ⟨w9.heap.size, 1, none⟩ = some (.string t) := by rw [World.cell?_alloc_new]; rfl
      have bn3 : w9.heap.size < (w9.alloc (.cells #[.int .i64 (m : Int), .string t] 44)).heap.size := by simp
      have BZ : Hid (Below w.heap.size w (w9.alloc (.cells #[.int .i64 (m : Int), .string t] 44))) := chain BP.out (Below.new1 _)
      have lm : L2.length ≤ 40 := by have := LL2.out; omega
      clear hs' ht'
      go_wp2_with fail
      clear xd0 xd1 xd2 xd3 xdl HDd gz1 gz2 gz3
      go_loopw [21] (fun i wr => DrRel L2.length (w9.alloc (.cells #[.int .i64 (m : Int), .string t] 44)) i wr) (fun i _ => L2.length - (intOf i).toNat)
      case atStart => exact ⟨0, 0, Nat.zero_le _, rfl, rfl⟩
      case round =>
        obtain ⟨i, q, hi, rfl, rfl⟩ := hrel
        have i0 : (0 : Int) ≤ (i : Int) := by omega
        by_cases cc : i < L2.length
        case neg =>
          have cc0 : ¬ (i : Int) < (L2.length : Int) := by omega
          go_wp2_with fail
          go_ret
          exact ⟨rfl, below_drewN BZ.out _⟩
        case pos =>
          have cc0 : (i : Int) < (L2.length : Int) := by omega
          have cc1 : (i : Int) < (L1.length : Int) := by have := LL1.out; have := LL2.out; omega
          by_cases e : i = m
          · have e1 : ((i : Int) == (m : Int)) = true := by simp; omega
            obtain ⟨b1, o1, rfl, g1, g2⟩ := HS.out i _ (strs_get (by rw [e]; exact LK.out))
            obtain ⟨b2, o2, rfl, g3, g4⟩ := HT.out i _ (strs_get (by rw [e]; exact LK0.out))
            have y1 : tn.size = 16 := X16.out
            have y2 : t.size = 16 := T16.out
            have y3 : s0.size = 16 := Z16.out
            clear e
            go_wp2_with fail
            go_loopw [22] (fun i wr => DrRel 16 (w9.alloc (.cells #[.int .i64 (m : Int), .string t] 44)) i wr) (fun i _ => 16 - (intOf i).toNat)
            case atStart => exact ⟨0, q, by omega, rfl, rfl⟩
            case round =>
              obtain ⟨k, q2, hk, rfl, rfl⟩ := hrel
              have k0 : (0 : Int) ≤ (k : Int) := by omega
              by_cases dd : k < 16
              case neg =>
                have d0 : ¬ (k : Int) < 16 := by omega
                go_wp2_with fail
                go_roundw
                case rel => exact ⟨i + 1, _, by omega, by congr 1, by first | rfl | (simp only [World.drewN_drewN]; rfl)⟩
                case measure => simp [intOf]; omega
              case pos =>
                have d0 : (k : Int) < 16 := by omega
                have d1 : (k : Int) < (tn.size : Int) := by omega
                have d2 : k < tn.size := by omega
                have d3 : (k : Int) < (t.size : Int) := by omega
                have d4 : k < t.size := by omega
                have d5 : (k : Int) < (s0.size : Int) := by omega
                have d6 : k < s0.size := by omega
                by_cases c : k < 8
                · have c0 : (k : Int) < 8 := by omega
                  have c1 := TLO.out k c d2 d4
                  have c2 : ((tn[k].toNat : Int) != (t[k].toNat : Int)) = false := by rw [c1]; simp
                  go_wp2_with fail
                  go_quiet (fail)
                  go_wp2_with fail
                  go_roundw
                  case rel => exact ⟨k + 1, _, by omega, by congr 1, by first | rfl | (simp only [World.drewN_drewN]; rfl)⟩
                  case measure => simp [intOf]; omega
                · have c0 : ¬ (k : Int) < 8 := by omega
                  have c1 := THI.out k (by omega) d2 d6
                  have c2 : ((tn[k].toNat : Int) != (s0[k].toNat : Int)) = false := by rw [c1]; simp
                  go_wp2_with fail
                  go_quiet (fail)
                  go_wp2_with fail
                  go_roundw
                  case rel => exact ⟨k + 1, _, by omega, by congr 1, by first | rfl | (simp only [World.drewN_drewN]; rfl)⟩
                  case measure => simp [intOf]; omega
          · have e1 : ((i : Int) == (m : Int)) = false := by simp; omega
            obtain ⟨x, hx⟩ : ∃ x, L1[i]? = some x := ⟨_, List.getElem?_eq_getElem (by omega)⟩
            have y1 : x.size = 16 := S16.out x (List.mem_of_getElem? hx)
            obtain ⟨b1, o1, rfl, g1, g2⟩ := HS.out i _ (strs_get (LG.out i x e hx))
            obtain ⟨b2, o2, rfl, g3, g4⟩ := HT.out i _ (strs_get hx)
            clear e hx
            go_wp2_with fail
            go_loopw [22] (fun i wr => DrRel 16 (w9.alloc (.cells #[.int .i64 (m : Int), .string t] 44)) i wr) (fun i _ => 16 - (intOf i).toNat)
            case atStart => exact ⟨0, q, by omega, rfl, rfl⟩
            case round =>
              obtain ⟨k, q2, hk, rfl, rfl⟩ := hrel
              have k0 : (0 : Int) ≤ (k : Int) := by omega
              by_cases dd : k < 16
              case neg =>
                have d0 : ¬ (k : Int) < 16 := by omega
                go_wp2_with fail
                go_roundw
                case rel => exact ⟨i + 1, _, by omega, by congr 1, by first | rfl | (simp only [World.drewN_drewN]; rfl)⟩
                case measure => simp [intOf]; omega
              case pos =>
                have d0 : (k : Int) < 16 := by omega
                have d1 : (k : Int) < (x.size : Int) := by omega
                have d2 : k < x.size := by omega
                go_wp2_with fail
                go_quiet (fail)
                go_wp2_with fail
                go_roundw
                case rel => exact ⟨k + 1, _, by omega, by congr 1, by first | rfl | (simp only [World.drewN_drewN]; rfl)⟩
                case measure => simp [intOf]; omega

end Go.Proofs.Ytcbeodhopimmlaa
