/-
  DiskReads.
-/
import Derived.Test.YtcbeodhopimmlaaPartsW
namespace Go.Proofs.Ytcbeodhopimmlaa
open Go.RowKit Dk

theorem ba_of {t : B} {i : Nat} {x : UInt8} (h : i < t.size) (hx : t.data.toList[i]? = some x) : t[i] = x := by
  have h2 : t.data.toList[i]? = some (t[i]) := by
    rw [Array.getElem?_toList, Array.getElem?_eq_getElem (by exact h)]
    rfl
  rw [hx] at h2
  exact (Option.some.inj h2).symm
theorem ba_list {t : B} {i : Nat} (h : i < t.size) : t.data.toList[i]? = some (t[i]) := by
  rw [Array.getElem?_toList, Array.getElem?_eq_getElem (by exact h)]
  rfl
theorem pad_list (s : B) : (pad s).data.toList = s.data.toList ++ List.replicate (16 - s.size) 0 := by unfold pad; rw [app_list, zb_list]
theorem pad_lo {s : B} {i : Nat} (h : i < s.size) (h2 : i < (pad s).size) : (pad s)[i] = s[i] := by
  refine ba_of h2 ?_
  rw [pad_list, List.getElem?_append_left (by exact h)]
  exact ba_list h
theorem pad_hi {s : B} {i : Nat} (h : s.size ≤ i) (hi : i < 16) (h2 : i < (pad s).size) : (pad s)[i] = 0 := by
  refine ba_of h2 ?_
  rw [pad_list, List.getElem?_append_right (by exact h), List.getElem?_replicate, if_pos]
  show i - s.data.toList.length < _
  have : s.data.toList.length = s.size := rfl
  omega
def DrRel (n : Nat) (w : World) (i : Value) (wr : World) : Prop := ∃ k q : Nat, k ≤ n ∧ i = .int .i64 (k : Int) ∧ wr = w.drewN q

set_option maxHeartbeats 25600000 in
set_option maxRecDepth 100000 in
theorem reads_x (ok : DiskOk) (sm : SmallOk) (v : Value) (d : D) (a : Nat) (s : B) (w : World) (h : DAt w v d) (hf : FitW d) (ha : a < 256) (hs : s.size ≤ 9223372036854775807) :
    Calls Try.prog 4 #[v, .int .u8 (a : Int), .string s] w fun r w' => r = .returned (.bool true) ∧ Below w.heap.size w w' := by
  obtain ⟨qa, qc, qb, qe, rfl, -, -, -, -⟩ := h.form
  have Pd := Lib.hid (Vr.new (w := w) h (Nat.le_refl _) 25)
  have HF := Lib.hid hf
  have BP : Hid (Below w.heap.size w (w.alloc (.cells #[.slice qa d.secs.length qc, .slice qb d.pend.length qe, .int .i64 d.left, .bool d.down] 25))) := Below.new1 _
  have dl1 := hf.left.1
  have dl2 := hf.left.2
  clear h hf
  go_enter Try.func4, Try.ntmps4
  go_wp2_with fail
  refine (sm _).mono ?_
  rintro r w1 ⟨rfl, b1⟩
  have Vd := Lib.hid (Pd.out.next b1)
  have BW1 := Lib.hid (chain BP.out b1)
  clear Pd BP b1
  have Pd := Lib.hid Vd.out
  have BP := Lib.hid BW1.out
  clear Vd
  obtain ⟨ad, cd, bd, ed, hBd, hDd⟩ := Pd.out.ex
  have xd0 := hBd.c0
  have xd1 := hBd.c1
  have xd2 := hBd.c2
  have xd3 := hBd.c3
  have xdl := hBd.lt
  have HDd := Lib.hid hDd
  clear hBd hDd
  go_wp2_with fail
  refine (right_x _ d _ HDd.out HF.out).mono ?_
  rintro r w2 ⟨rfl, b2⟩
  obtain ⟨okd, hok⟩ : ∃ x, okB d = x := ⟨_, rfl⟩
  rw [hok]
  have HOK := Lib.hid hok
  clear hok
  clear xd0 xd1 xd2 xd3 xdl HDd
  have Z2 : Hid (w1.heap.size ≤ w2.heap.size) := b2.size
  have Vd := Lib.hid (Pd.out.next b2)
  have BW2 : Hid (Below w.heap.size w w2) := chain BP.out b2
  clear BP
  clear Pd
  have NE_0_2 : Hid (w.heap.size < w2.heap.size) := Nat.lt_of_lt_of_le (Vd.out.lt) (Nat.le_refl _)
  clear b2
  have Pd := Lib.hid Vd.out
  have BP := Lib.hid BW2.out
  clear Vd
  obtain ⟨ad, cd, bd, ed, hBd, hDd⟩ := Pd.out.ex
  have xd0 := hBd.c0
  have xd1 := hBd.c1
  have xd2 := hBd.c2
  have xd3 := hBd.c3
  have xdl := hBd.lt
  have HDd := Lib.hid hDd
  clear hBd hDd
  cases okd with
  | false =>
    go_wp2_with fail
    go_ret
    exact ⟨rfl, BP.out⟩
  | true =>
    by_cases t2 : 16 < s.size
    case pos =>
      have f2 : 16 < (s.size : Int) := by omega
      go_wp2_with fail
      go_ret
      exact ⟨rfl, BP.out⟩
    case neg =>
      have f2 : ¬ 16 < (s.size : Int) := by omega
      have s16 : s.size ≤ 16 := by omega
      obtain ⟨⟨hs1, hs2⟩, hck, hdn⟩ := ok_iff.1 HOK.out
      obtain ⟨⟨c1, c2, c3, -, -⟩, -, -, -⟩ := check_iff.1 hck
      have f3 : ((d.pend.length : Int) == 512) = false := by simp; omega
      obtain ⟨k, hk⟩ : ∃ k : Nat, (a : Int) % (d.secs.length : Int) = (k : Int) := ⟨a % d.secs.length, by omega⟩
      have kl : k < d.secs.length := by have := Int.emod_lt_of_pos (a : Int) (show (0 : Int) < (d.secs.length : Int) by omega); omega
      have k0 : (0 : Int) ≤ (k : Int) := by omega
      have k1' : (k : Int) < (d.secs.length : Int) := by omega
      have lp : (0 : Int) < (d.secs.length : Int) := by omega
      have ik : I64 (k : Int) := by unfold I64; omega
      have kk1 := check_write hck hdn ⟨k0, k1'⟩ (pad_size s16) (show d.pend.length < 512 by omega)
      obtain ⟨l, hl⟩ : ∃ x, view d = x := ⟨_, rfl⟩
      have ll : l.length = d.secs.length := by rw [← hl]; exact perf_len _ _
      obtain ⟨t, ht⟩ : ∃ x, pad s = x := ⟨_, rfl⟩
      obtain ⟨l1, hl1⟩ : ∃ x, l.set k t = x := ⟨_, rfl⟩
      have ll1 : l1.length = d.secs.length := by rw [← hl1, List.length_set]; exact ll
      obtain ⟨d1, hd1⟩ : ∃ x : D, x = ⟨d.secs, d.pend ++ [((k : Int), pad s)], d.left, d.down⟩ := ⟨_, rfl⟩
      have E1 : Hid (wrV d (k : Int) s = (d1, 0)) := by rw [hd1]; exact wr_ok hck hdn ⟨k0, k1'⟩ (by omega) (by omega)
      have g1 : checkB d1 = true := by rw [hd1]; exact kk1
      have n1 : d1.down = false := by rw [hd1]; exact hdn
      have s1 : d1.secs.length = d.secs.length := by rw [hd1]
      have EV : Hid (view d1 = l1) := by
        show _ = _
        rw [← hl1, ← hl, ← ht, hd1]
        unfold view
        rw [perf_app, perf_one, Int.toNat_natCast]
      have EL : Hid (view d = l) := hl
      have f4 : ((l.length : Int) != (d.secs.length : Int)) = false := by rw [ll]; simp
      have f5 : ((d1.secs.length : Int) != (d.secs.length : Int)) = false := by rw [s1]; simp
      have LL := Lib.hid ll
      have LL1 := Lib.hid ll1
      have SL1 := Lib.hid s1
      have FD := Lib.hid (fit_right hck)
      have FD1 := Lib.hid (fit_right g1)
      have CK := Lib.hid hck
      have DN := Lib.hid hdn
      have CK1 := Lib.hid g1
      have DN1 := Lib.hid n1
      have hc1 : Hid (chk d1 = 0) := chk_yes g1
      have T16 : Hid (t.size = 16) := by show _ = _; rw [← ht]; exact pad_size s16
      have TLO : Hid (∀ i (h : i < s.size) (h2 : i < t.size), t[i] = s[i]) := by intro i h h2; subst ht; exact pad_lo h h2
      have THI : Hid (∀ i (h : s.size ≤ i) (_ : i < 16) (h2 : i < t.size), t[i] = 0) := by intro i h h3 h2; subst ht; exact pad_hi h h3 h2
      have LG : Hid (∀ i x, i ≠ k → l[i]? = some x → l1[i]? = some x) := by intro i x hi hx; rw [← hl1, List.getElem?_set_ne (fun e => hi e.symm)]; exact hx
      have LK : Hid (l1[k]? = some t) := by show _ = _; rw [← hl1, List.getElem?_set_self (by omega)]
      have HK := Lib.hid hk
      have SAME : Hid (d.secs.length = d.secs.length) := rfl
      clear hd1 g1 n1 s1 kk1 hck hdn hl ht hl1 ll ll1 SAME
      clear xd0 xd1 xd2 xd3 xdl HDd
      obtain ⟨ad, cd, bd, ed, hBd, hDd⟩ := Pd.out.ex
      have xd0 := hBd.c0
      have xd1 := hBd.c1
      have xd2 := hBd.c2
      have xd3 := hBd.c3
      have xdl := hBd.lt
      have HDd := Lib.hid hDd
      clear hBd hDd
      have HC := Lib.hid (conv_v (contents_x ok _ d _ HDd.out CK.out DN.out) EL.out)
      go_wp2_with fail
      refine HC.out.mono ?_
      rintro r w3 ⟨ur, tr, rfl, h3, b3⟩
      clear HC
      clear xd0 xd1 xd2 xd3 xdl HDd
      have Z3 : Hid (w2.heap.size ≤ w3.heap.size) := b3.size
      have Vd := Lib.hid (Pd.out.next b3)
      have BW3 : Hid (Below w.heap.size w w3) := chain BP.out b3
      clear BP
      clear Pd
      have NE_0_3 : Hid (w.heap.size < w3.heap.size) := Nat.lt_of_lt_of_le (Vd.out.lt) (Nat.le_refl _)
      have Wr := Lib.hid h3
      clear h3 b3
      have Qr := Lib.hid Wr.out
      clear Wr
      have Pd := Lib.hid Vd.out
      have BP := Lib.hid BW3.out
      clear Vd
      obtain ⟨ad, cd, bd, ed, hBd, hDd⟩ := Pd.out.ex
      have xd0 := hBd.c0
      have xd1 := hBd.c1
      have xd2 := hBd.c2
      have xd3 := hBd.c3
      have xdl := hBd.lt
      have HDd := Lib.hid hDd
      clear hBd hDd
      clear xd0 xd1 xd2 xd3 xdl HDd
      obtain ⟨ad, cd, bd, ed, hBd, hDd⟩ := Pd.out.ex
      have xd0 := hBd.c0
      have xd1 := hBd.c1
      have xd2 := hBd.c2
      have xd3 := hBd.c3
      have xdl := hBd.lt
      have HDd := Lib.hid hDd
      clear hBd hDd
      have HC := Lib.hid (conv_d (ok.write _ d (k : Int) s _ HDd.out FD.out ik hs) E1.out)
      go_wp2_with fail
      refine HC.out.mono ?_
      rintro r w4 ⟨sa4, sc4, pa4, pc4, rfl, h4, b4⟩
      clear HC
      clear xd0 xd1 xd2 xd3 xdl HDd
      have Z4 : Hid (w3.heap.size ≤ w4.heap.size) := b4.size
      have Wr := Lib.hid (Qr.out.next (b4))
      clear Qr
      have Vd := Lib.hid (Pd.out.next b4)
      have BW4 : Hid (Below w.heap.size w w4) := chain BP.out b4
      clear BP
      clear Pd
      have NE_0_4 : Hid (w.heap.size < w4.heap.size) := Nat.lt_of_lt_of_le (Vd.out.lt) (Nat.le_refl _)
      have H4 := Lib.hid h4
      clear h4 b4
      have Pd := Lib.hid (Vd.out.next (Below.new1 (.cells #[(.slice sa4 (d1).secs.length sc4), (.slice pa4 (d1).pend.length pc4), .int .i64 d1.left, .bool d1.down] 25)))
      have Px := Lib.hid (Vr.new (w := w) H4.out BW4.out.size 25)
      have BP : Hid (Below w.heap.size w (w4.alloc (.cells #[(.slice sa4 (d1).secs.length sc4), (.slice pa4 (d1).pend.length pc4), .int .i64 d1.left, .bool d1.down] 25))) := chain BW4.out (Below.new1 _)
      have zs4 : (w4.alloc (.cells #[(.slice sa4 (d1).secs.length sc4), (.slice pa4 (d1).pend.length pc4), .int .i64 d1.left, .bool d1.down] 25)).heap.size = w4.heap.size + 1 := by simp
      have ZS4 := Lib.hid zs4
      clear zs4
      have Qr := Lib.hid (Wr.out.next (Below.new1 (.cells #[(.slice sa4 (d1).secs.length sc4), (.slice pa4 (d1).pend.length pc4), .int .i64 d1.left, .bool d1.down] 25)))
      clear Wr
      clear Vd
      obtain ⟨ax, cx, bx, ex, hBx, hDx⟩ := Px.out.ex
      have xx0 := hBx.c0
      have xx1 := hBx.c1
      have xx2 := hBx.c2
      have xx3 := hBx.c3
      have xxl := hBx.lt
      have HDx := Lib.hid hDx
      clear hBx hDx
      obtain ⟨ad, cd, bd, ed, hBd, hDd⟩ := Pd.out.ex
      have xd0 := hBd.c0
      have xd1 := hBd.c1
      have xd2 := hBd.c2
      have xd3 := hBd.c3
      have xdl := hBd.lt
      have HDd := Lib.hid hDd
      clear hBd hDd
      have HC := Lib.hid (conv_c (ok.check _ d1 _ HDx.out FD1.out) hc1.out)
      go_wp2_with fail
      refine HC.out.mono ?_
      rintro r w5 ⟨rfl, b5⟩
      clear HC
      clear xx0 xx1 xx2 xx3 xxl HDx
      clear xd0 xd1 xd2 xd3 xdl HDd
      have Z5 : Hid ((w4.alloc (.cells #[(.slice sa4 (d1).secs.length sc4), (.slice pa4 (d1).pend.length pc4), .int .i64 d1.left, .bool d1.down] 25)).heap.size ≤ w5.heap.size) := b5.size
      have Wr := Lib.hid (Qr.out.next (b5))
      clear Qr
      have Vd := Lib.hid (Pd.out.next b5)
      have Vx := Lib.hid (Px.out.next b5)
      have BW5 : Hid (Below w.heap.size w w5) := chain BP.out b5
      clear BP
      clear Pd Px
      have NE_0_5 : Hid (w.heap.size < w5.heap.size) := Nat.lt_of_lt_of_le (Vd.out.lt) (Nat.le_refl _)
      have NE_4_5 : Hid (w4.heap.size < w5.heap.size) := Nat.lt_of_lt_of_le (Vx.out.lt) (Nat.le_refl _)
      clear b5
      have Qr := Lib.hid Wr.out
      clear Wr
      have Pd := Lib.hid Vd.out
      have Px := Lib.hid Vx.out
      have BP := Lib.hid BW5.out
      clear Vd Vx
      obtain ⟨ad, cd, bd, ed, hBd, hDd⟩ := Pd.out.ex
      have xd0 := hBd.c0
      have xd1 := hBd.c1
      have xd2 := hBd.c2
      have xd3 := hBd.c3
      have xdl := hBd.lt
      have HDd := Lib.hid hDd
      clear hBd hDd
      obtain ⟨ax, cx, bx, ex, hBx, hDx⟩ := Px.out.ex
      have xx0 := hBx.c0
      have xx1 := hBx.c1
      have xx2 := hBx.c2
      have xx3 := hBx.c3
      have xxl := hBx.lt
      have HDx := Lib.hid hDx
      clear hBx hDx
      have HC := Lib.hid (conv_v (contents_x ok _ d1 _ HDx.out CK1.out DN1.out) EV.out)
      go_wp2_with fail
      refine HC.out.mono ?_
      rintro r w6 ⟨us, ts, rfl, h6, b6⟩
      clear HC
      clear xx0 xx1 xx2 xx3 xxl HDx
      clear xd0 xd1 xd2 xd3 xdl HDd
      have Z6 : Hid (w5.heap.size ≤ w6.heap.size) := b6.size
      have Wr := Lib.hid (Qr.out.next (b6))
      clear Qr
      have Vd := Lib.hid (Pd.out.next b6)
      have Vx := Lib.hid (Px.out.next b6)
      have BW6 : Hid (Below w.heap.size w w6) := chain BP.out b6
      clear BP
      clear Pd Px
      have NE_0_6 : Hid (w.heap.size < w6.heap.size) := Nat.lt_of_lt_of_le (Vd.out.lt) (Nat.le_refl _)
      have NE_4_6 : Hid (w4.heap.size < w6.heap.size) := Nat.lt_of_lt_of_le (Vx.out.lt) (Nat.le_refl _)
      have Ws := Lib.hid h6
      clear h6 b6
      have Qr := Lib.hid Wr.out
      have Qs := Lib.hid Ws.out
      clear Wr Ws
      have Pd := Lib.hid Vd.out
      have Px := Lib.hid Vx.out
      have BP := Lib.hid BW6.out
      clear Vd Vx
      obtain ⟨ra, rc, re, -, hr⟩ := Qr.out
      obtain ⟨sa, sc, se, -, hs'⟩ := Qs.out
      rw [strs_len] at re se
      simp only [Value.slice.injEq] at re se
      obtain ⟨rfl, -, rfl⟩ := re
      obtain ⟨rfl, -, rfl⟩ := se
      have HR := Lib.hid hr
      have HS := Lib.hid hs'
      clear hr hs'
      have lm : l1.length ≤ 40 := by have := LL1.out; omega
      go_wp2_with fail
      go_loopw [15] (fun i wr => DrRel l1.length w6 i wr) (fun i _ => l1.length - (intOf i).toNat)
      case atStart => exact ⟨0, 0, Nat.zero_le _, rfl, rfl⟩
      case round =>
        obtain ⟨i, q, hi, rfl, rfl⟩ := hrel
        have i0 : (0 : Int) ≤ (i : Int) := by omega
        by_cases cc : i < l1.length
        case pos =>
          have cc0 : (i : Int) < (l1.length : Int) := by omega
          have cc1 : (i : Int) < (l.length : Int) := by have := LL.out; have := LL1.out; omega
          by_cases e : i = k
          · have e1 : ((i : Int) != (k : Int)) = false := by simp; omega
            clear e
            go_wp2_with fail
            go_quiet (fail)
            go_wp2_with fail
            go_roundw
            case rel => exact ⟨i + 1, _, by omega, by congr 1, by first | rfl | (simp only [World.drewN_drewN]; rfl)⟩
            case measure => simp [intOf]; omega
          · have e1 : ((i : Int) != (k : Int)) = true := by simp; omega
            obtain ⟨x, hx⟩ : ∃ x, l[i]? = some x := ⟨_, List.getElem?_eq_getElem (by omega)⟩
            obtain ⟨b1, o1, rfl, g1, g2⟩ := HR.out i _ (strs_get hx)
            obtain ⟨b2, o2, rfl, g3, g4⟩ := HS.out i _ (strs_get (LG.out i x e hx))
            clear e hx
            go_wp2_with fail
            go_quiet (fail)
            go_wp2_with fail
            go_roundw
            case rel => exact ⟨i + 1, _, by omega, by congr 1, by first | rfl | (simp only [World.drewN_drewN]; rfl)⟩
            case measure => simp [intOf]; omega
        case neg =>
          have cc0 : ¬ (i : Int) < (l1.length : Int) := by omega
          obtain ⟨b3, o3, rfl, g5, g6⟩ := HS.out k _ (strs_get LK.out)
          have kl1 : (k : Int) < (l1.length : Int) := by have := LL1.out; omega
          have t16 : t.size = 16 := T16.out
          go_wp2_with fail
          clear i0 cc cc0 hi
          go_loopw [16] (fun i wr => DrRel 16 w6 i wr) (fun i _ => 16 - (intOf i).toNat)
          case atStart => exact ⟨0, q, by omega, rfl, rfl⟩
          case round =>
            obtain ⟨j, q2, hj, rfl, rfl⟩ := hrel
            have j0 : (0 : Int) ≤ (j : Int) := by omega
            by_cases dd : j < 16
            case neg =>
              have d0 : ¬ (j : Int) < 16 := by omega
              go_wp2_with fail
              go_ret
              exact ⟨rfl, below_drewN BP.out _⟩
            case pos =>
              have d0 : (j : Int) < 16 := by omega
              have d1 : (j : Int) < (t.size : Int) := by omega
              have d2 : j < t.size := by omega
              by_cases e : j < s.size
              · have e1 : (j : Int) < (s.size : Int) := by omega
                have e2 := TLO.out j e d2
                have e3 : ((t[j].toNat : Int) != (s[j].toNat : Int)) = false := by rw [e2]; simp
                have e4 : decide ((s.size : Int) ≤ (j : Int)) = false := decide_eq_false (by omega)
                have e5 : ¬ (s.size : Int) ≤ (j : Int) := by omega
                have e6 : decide (s.size ≤ j) = false := decide_eq_false (by omega)
                have e7 : ¬ s.size ≤ j := by omega
                go_wp2_with fail
                go_quiet (fail)
                go_wp2_with fail
                go_roundw
                case rel => exact ⟨j + 1, _, by omega, by congr 1, by first | rfl | (simp only [World.drewN_drewN]; rfl)⟩
                case measure => simp [intOf]; omega
              · have e1 : ¬ (j : Int) < (s.size : Int) := by omega
                have e1' : (s.size : Int) ≤ (j : Int) := by omega
                have e2 := THI.out j (by omega) dd d2
                have e3 : ((t[j].toNat : Int) != 0) = false := by rw [e2]; rfl
                go_wp2_with fail
                go_quiet (fail)
                go_wp2_with fail
                go_roundw
                case rel => exact ⟨j + 1, _, by omega, by congr 1, by first | rfl | (simp only [World.drewN_drewN]; rfl)⟩
                case measure => simp [intOf]; omega

end Go.Proofs.Ytcbeodhopimmlaa
