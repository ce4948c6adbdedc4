/-
  The law GraphOrders' walk.
-/
import Derived.Test.YtndcbhgdlaemaaaOrdersL
import Derived.Deep.DrawnRows
namespace Go.Proofs.Ytndcbhgdlaemaaa
open Go.RowKit Gr

set_option maxHeartbeats 12800000 in
set_option maxRecDepth 100000 in
theorem GraphOrders_x (h : GraphOk) (v : Value) (n : Int) (e : E) (w : World) (hat : EAt w v e) (hok : okE2 e) (hn : I64 n) :
    Calls Try.prog 5 #[.int .i64 n, v] w fun e w' => e = .returned (.bool true) ∧ Below w.heap.size w w' := by
  have HA := Lib.hid hat
  obtain ⟨ad, cap, rfl, -, -⟩ := hat
  have OK := Lib.hid hok
  have HN := Lib.hid hn
  clear hok hn
  obtain ⟨mb, hmb⟩ : ∃ mb, midB n e = mb := ⟨_, rfl⟩
  have MB := Lib.hid hmb
  cases mb with
  | false =>
    clear hmb
    go_enter Try.func5, Try.ntmps5
    go_wp2_with fail
    refine (sane_x h _).mono ?_
    rintro r w1 ⟨rfl, b1⟩
    have A1 := HA.out.below b1 (Nat.le_refl _)
    go_wp2_with fail
    refine (middle_x _ _ e _ A1).mono ?_
    rintro r w2 ⟨rfl, rfl⟩
    rw [MB.out]
    go_wp2_with fail
    go_ret
    exact ⟨by try rfl, b1⟩
  | true =>
    obtain ⟨n40, e200, hr⟩ := mid_iff.1 hmb
    have n0 := (right_iff.1 hr).1.1
    obtain ⟨N, rfl⟩ := Int.eq_ofNat_of_zero_le n0
    have HR := Lib.hid hr
    have hl2 : e.length ≤ 1099511627776 := by omega
    have hl3 : e.length ≤ 1152921504606846976 := by omega
    have HOC := Lib.hid (order_cycle hr)
    have HE := Lib.hid (right_iff.1 hr).2.2
    clear hmb hr
    cases ho : order N e with
    | none =>
      have hb : ordB N e = false := by unfold ordB; rw [ho]; rfl
      have HB := Lib.hid hb
      have HL : Hid (ordL N e = []) := by show _ = _; unfold ordL; rw [ho]; rfl
      have hcn : cycle N e ≠ [] := fun h0 => by have := HOC.out.2 h0; rw [ho] at this; cases this
      have hic := cycle_some HR.out hcn
      obtain ⟨c, hc⟩ : ∃ c, cycle N e = c := ⟨_, rfl⟩
      rw [hc] at hcn hic
      have Hc := Lib.hid hc
      have HIC := Lib.hid hic
      have cl := hic.len HR.out
      have c0 : 0 < c.length := List.length_pos_iff.2 hcn
      have cp : (0 : Int) < (c.length : Int) := by omega
      have cz : ((c.length : Int) == 0) = false := by simp; omega
      have c40 : (c.length : Int) ≤ 40 := by simp at cl; omega
      clear ho hb hc hic cl
      have hcn' : ¬ c = [] := hcn
      clear hcn
      go_enter Try.func5, Try.ntmps5
      go_wp2_with fail
      refine (sane_x h _).mono ?_
      rintro r w1 ⟨rfl, b1⟩
      have A1 := HA.out.below b1 (Nat.le_refl _)
      go_wp2_with fail
      refine (middle_x _ _ e _ A1).mono ?_
      rintro r w2 ⟨rfl, rfl⟩
      rw [MB.out]
      go_wp2_with fail
      refine (h.order _ _ e _ A1 hl2 OK.out HN.out).mono ?_
      rintro r w3 ⟨x, rfl, hx, b3⟩
      have A3 := A1.below b3 (Nat.le_refl _)
      have c3 := chain b1 b3
      clear A1 b1 b3
      rw [HB.out]
      rw [HL.out] at hx
      go_wp2_with fail
      refine (h.cycle _ _ e _ A3 hl2 OK.out HN.out).mono ?_
      rintro r w4 ⟨y, rfl, hy, b4⟩
      have A4 := A3.below b4 (Nat.le_refl _)
      have X4 := hx.below b4 (Nat.le_refl _)
      have c4 := chain c3 b4
      clear A3 hx b4 c3
      rw [Hc.out] at hy
      obtain ⟨sa, sc, rfl, scap, hsx⟩ := hy
      have HSX := Lib.hid hsx
      rw [List.length_map] at scap ⊢
      obtain ⟨xa, xc, rfl, -, -⟩ := X4
      have HA4 := Lib.hid A4
      have C4 := Lib.hid c4
      clear hsx A4 c4
      go_wp2_with fail
      go_loopw [9] (fun i wr => Cy6 c.length w4 i wr) (fun i _ => c.length - (intOf i).toNat)
      case atStart => exact ⟨0, Nat.zero_le _, rfl, 0, rfl⟩
      case round =>
        obtain ⟨k, hk, rfl, q, rfl⟩ := hrel
        have k0 : (0 : Int) ≤ (k : Int) := by omega
        by_cases d : (k : Int) < (c.length : Int)
        case neg =>
          go_wp2_with fail
          go_ret
          exact ⟨by try rfl, below_drewN C4.out _⟩
        case pos =>
          have kl : k < c.length := by omega
          obtain ⟨m, hm⟩ : ∃ m, (k + 1) % c.length = m := ⟨_, rfl⟩
          have ml : m < c.length := by rw [← hm]; exact Nat.mod_lt _ (by omega)
          have tm : ((k : Int) + 1).tmod (c.length : Int) = (m : Int) := by
            rw [Int.tmod_eq_emod_of_nonneg (by omega), ← hm, Int.natCast_emod]
            rfl
          have m0 : (0 : Int) ≤ (m : Int) := by omega
          have mL : (m : Int) < (c.length : Int) := by omega
          obtain ⟨x, hx⟩ : ∃ x, c[k]? = some x := ⟨_, List.getElem?_eq_getElem kl⟩
          obtain ⟨y, hy⟩ : ∃ y, c[m]? = some y := ⟨_, List.getElem?_eq_getElem ml⟩
          obtain ⟨z, hz⟩ : ∃ z, c[0]? = some z := ⟨_, List.getElem?_eq_getElem (by omega)⟩
          have hed : edgeB e x y = true := edgeB_iff.2 ((closed_iff (List.length_pos_iff.1 (by omega))).1 HIC.out.1 k x y hx (by rw [hm]; exact hy))
          have hfirst : 0 < k → z < x := fun hk0 => by
            obtain ⟨a, t, rfl⟩ : ∃ a t, c = a :: t := by
              cases c with
              | nil => simp at kl
              | cons a t => exact ⟨a, t, rfl⟩
            simp at hz
            subst hz
            refine HIC.out.first x ?_
            obtain ⟨k', rfl⟩ : ∃ k', k = k' + 1 := ⟨k - 1, by omega⟩
            exact List.mem_of_getElem? (by simpa using hx)
          obtain ⟨g, off, rfl, hg, p0⟩ := HSX.out k _ (ints_get hx)
          obtain ⟨g2, off2, e2, -, p1⟩ := HSX.out m _ (ints_get hy)
          obtain ⟨g3, off3, e3, -, p2⟩ := HSX.out 0 _ (ints_get hz)
          simp only [Option.some.injEq, Addr.mk.injEq, and_true] at e2 e3
          obtain ⟨rfl, rfl⟩ := e2
          obtain ⟨rfl, rfl⟩ := e3
          rw [Nat.add_zero] at p2
          have ED : Hid (∀ W : World, (∃ q, W = w4.drewN q) → Calls Try.prog 24 #[.slice ad e.length cap, .int .i64 x, .int .i64 y] W fun r w' => r = .returned (.bool true) ∧ W = w') := fun W hW => by
            obtain ⟨q, rfl⟩ := hW
            have h := Edge_x _ x y e _ (HA4.out.drewN q) hl3
            rw [hed] at h
            exact h
          have HF := Lib.hid hfirst
          have wk : IntKind.i64.wrap ((k : Int) + 1) = (k : Int) + 1 := IntWalk.i64_in _ (by omega)
          clear hm hx hy hz hed hfirst
          by_cases k1 : 0 < k
          · have f1 : decide (0 < k) = true := decide_eq_true k1
            have f2 : decide (x ≤ z) = false := decide_eq_false (by have := HF.out k1; omega)
            clear k1
            go_wp2_with fail
            go_quiet (first | (go_at_call 24; refine quiet_at_same (ED.out _ ⟨_, rfl⟩)))
            go_wp2_with fail
            go_roundw
            case rel => exact ⟨k + 1, by omega, by congr 1, _, by first | rfl | rw [World.drewN_drewN]⟩
            case measure => simp [intOf]; omega
          · have f1 : decide (0 < k) = false := decide_eq_false k1
            clear k1 p2
            go_wp2_with fail
            go_quiet (first | (go_at_call 24; refine quiet_at_same (ED.out _ ⟨_, rfl⟩)))
            go_wp2_with fail
            go_roundw
            case rel => exact ⟨k + 1, by omega, by congr 1, _, by first | rfl | rw [World.drewN_drewN]⟩
            case measure => simp [intOf]; omega
    | some l =>
      obtain ⟨-, hok6, hlen⟩ := order_ok ho
      rw [Int.toNat_natCast] at hlen
      have hb : ordB N e = true := by unfold ordB; rw [ho]; rfl
      have HB := Lib.hid hb
      have HL : Hid (ordL N e = l) := by show _ = _; unfold ordL; rw [ho]; rfl
      have Hcy : Hid (cycle N e = []) := HOC.out.1 (by rw [ho]; rfl)
      have HO := Lib.hid hok6
      have HLen := Lib.hid hlen
      have hN40 : N ≤ 40 := by omega
      clear ho hb hok6
      obtain ⟨rj, hj, hy0, hy1, hy2⟩ := info_parts infoI
      have Hj := Lib.hid hj
      have Hy0 := Lib.hid hy0
      have Hy1 := Lib.hid hy1
      have Hy2 := Lib.hid hy2
      clear hj hy0 hy1 hy2
      go_enter Try.func5, Try.ntmps5
      go_wp2_with fail
      refine (sane_x h _).mono ?_
      rintro r w1 ⟨rfl, b1⟩
      have A1 := HA.out.below b1 (Nat.le_refl _)
      go_wp2_with fail
      refine (middle_x _ _ e _ A1).mono ?_
      rintro r w2 ⟨rfl, rfl⟩
      rw [MB.out]
      go_wp2_with fail
      refine (h.order _ _ e _ A1 hl2 OK.out HN.out).mono ?_
      rintro r w3 ⟨x, rfl, hx, b3⟩
      have A3 := A1.below b3 (Nat.le_refl _)
      have c3 := chain b1 b3
      clear A1 b1 b3
      rw [HB.out]
      rw [HL.out] at hx
      go_wp2_with fail
      refine (h.cycle _ _ e _ A3 hl2 OK.out HN.out).mono ?_
      rintro r w4 ⟨y, rfl, hy, b4⟩
      have A4 := A3.below b4 (Nat.le_refl _)
      have X4 := hx.below b4 (Nat.le_refl _)
      have c4 := chain c3 b4
      clear A3 hx b4 c3
      rw [Hcy.out] at hy
      obtain ⟨sa, sc, rfl, -, -⟩ := hy
      obtain ⟨xa, xc, ex, xcap, -⟩ := id X4
      rw [List.length_map, hlen] at ex xcap
      subst ex
      have HA4 := Lib.hid A4
      have HX4 := Lib.hid X4
      have C4 := Lib.hid c4
      clear A4 X4 c4 hlen
      go_wp2_with (at_make; refine wpList_make_full _ rfl (.tmp 85) (.tmp 85) 25 rfl w4.heap.size 3 rj (.int .i64 0) 1 Try.underlying25 Hj.out Hy0.out Hy1.out .i64 .i64 N N N rfl rfl rfl rfl ?f1 ?f2 ?f3 ?_)
      case f1 => rw [Hy2.out]; omega
      case f2 => unfold maxLen; omega
      case f3 => exact Nat.le_refl _
      intro w5 hown hgrow
      rw [made_ints] at hown
      have O5 : Hid (OX w e l (.slice ad e.length cap) (.slice xa N xc) w4.heap.size (List.replicate N 0) w4 w5) := ⟨Row.own hown (by simp), (Below.refl _ _).grown hgrow (Nat.le_refl _) (fun k hk => by cases hk), HA4.out, HX4.out, rfl, C4.out⟩
      clear hown hgrow
      go_wp2_with fail
      go_loopw [11] (fun i wr => Lp2 N w e l (.slice ad e.length cap) (.slice xa N xc) w4.heap.size w4 i wr) (fun i _ => N - (intOf i).toNat)
      case atStart => exact ⟨0, _, Nat.zero_le _, rfl, PS.start HO.out.node, O5.out⟩
      case round =>
        obtain ⟨k, P, hk, rfl, hPS, hOX⟩ := hrel
        have HPS := Lib.hid hPS
        have HOX := Lib.hid hOX
        clear hPS hOX
        have k0 : (0 : Int) ≤ (k : Int) := by omega
        by_cases d : (k : Int) < (N : Int)
        case pos =>
          have kN : k < N := by omega
          obtain ⟨a', ha⟩ : ∃ a, l[k]? = some a := ⟨_, List.getElem?_eq_getElem (by rw [HLen.out]; exact kN)⟩
          have han := HO.out.node _ (List.mem_of_getElem? ha)
          obtain ⟨a, rfl⟩ := Int.eq_ofNat_of_zero_le han.1
          have a0 : (0 : Int) ≤ (a : Int) := by omega
          have aN : (a : Int) < (N : Int) := han.2
          have hP := HPS.out.todo k a ha (Nat.le_refl _)
          obtain ⟨a'', c'', e', -, hli⟩ := HOX.out.ow.li
          injection e' with e1 e2 e3
          subst e1 e3
          obtain ⟨g, off, rfl, hg, p0⟩ := hli k _ (ints_get ha)
          have q0 := HOX.out.row.lt
          have q1 := HOX.out.row.c a _ (ints_get hP)
          have q2 := HOX.out.row.fz a (by rw [List.length_map, HPS.out.len]; omega)
          have Hnext : Hid (PS N l (k + 1) (P.set a ((k : Int) + 1))) := HPS.out.next HO.out ha
          have aP : Hid (a < P.length) := show _ < _ by rw [HPS.out.len]; omega
          have s1 : IntKind.i64.wrap (k : Int) = (k : Int) := IntWalk.i64_in _ (by omega)
          have s2 : IntKind.i64.wrap ((k : Int) + 1) = (k : Int) + 1 := IntWalk.i64_in _ (by omega)
          clear ha hP hli e2 han
          go_wp2_with fail
          go_region
          go_wp2_with fail
          go_roundw
          case rel => exact ⟨k + 1, P.set a ((k : Int) + 1), by omega, by congr 1, Hnext.out, by first | exact HOX.out.set a aP.out _ | exact (HOX.out.set a aP.out _).drew | exact HOX.out.drew.set a aP.out _ | exact (HOX.out.drewN _).set a aP.out _⟩
          case measure => simp [intOf]; omega
        case neg =>
          obtain rfl : N = k := by omega
          have HW : Hid (OW w e l (.slice ad e.length cap) (.slice xa N xc) w4.heap.size P wr) := HOX.out.ow
          clear d HOX k0 hk
          go_wp2_with fail
          go_loopw [12] (fun i wx => Lp3 N w e l (.slice ad e.length cap) (.slice xa N xc) w4.heap.size P i wx) (fun i _ => N - (intOf i).toNat)
          case atStart => exact ⟨0, Nat.zero_le _, rfl, HW.out⟩
          case round =>
            clear HW
            obtain ⟨k, hk, rfl, hX⟩ := hrel
            have HX := Lib.hid hX
            clear hX
            have k0 : (0 : Int) ≤ (k : Int) := by omega
            by_cases d : (k : Int) < (N : Int)
            case pos =>
              obtain ⟨a', ha⟩ : ∃ a, l[k]? = some a := ⟨_, List.getElem?_eq_getElem (by rw [HLen.out]; omega)⟩
              have han := HO.out.node _ (List.mem_of_getElem? ha)
              obtain ⟨a, rfl⟩ := Int.eq_ofNat_of_zero_le han.1
              have a0 : (0 : Int) ≤ (a : Int) := by omega
              have aN : (a : Int) < (N : Int) := han.2
              have hP := HPS.out.done k a ha (by omega)
              obtain ⟨a'', c'', e', -, hli⟩ := HX.out.li
              injection e' with e1 e2 e3
              subst e1 e3
              obtain ⟨g, off, rfl, hg, p0⟩ := hli k _ (ints_get ha)
              have q0 := HX.out.row.lt
              have q1 := HX.out.row.c a _ (ints_get hP)
              clear ha hP hli e2 han
              go_wp2_with fail
              go_roundw
              case rel => exact ⟨k + 1, by omega, by congr 1, HX.out⟩
              case measure => simp [intOf]; omega
            case neg =>
              go_wp2_with fail
              clear d k0 hk
              go_loopw [13] (fun i wx => Lp3 e.length w e l (.slice ad e.length cap) (.slice xa N xc) w4.heap.size P i wx) (fun i _ => e.length - (intOf i).toNat)
              case atStart => exact ⟨0, Nat.zero_le _, rfl, HX.out⟩
              case round =>
                clear HX
                obtain ⟨k, hk, rfl, hX⟩ := hrel
                have HX := Lib.hid hX
                clear hX
                have k0 : (0 : Int) ≤ (k : Int) := by omega
                by_cases d : (k : Int) < (e.length : Int)
                case pos =>
                  obtain ⟨p, hp⟩ : ∃ p, e[k]? = some p := ⟨_, List.getElem?_eq_getElem (by omega)⟩
                  have hpe := HE.out p (List.mem_of_getElem? hp)
                  obtain ⟨px, py⟩ := p
                  simp only at hpe
                  obtain ⟨x, rfl⟩ := Int.eq_ofNat_of_zero_le hpe.1.1
                  obtain ⟨y, rfl⟩ := Int.eq_ofNat_of_zero_le hpe.2.1
                  have x0 : (0 : Int) ≤ (x : Int) := by omega
                  have y0 : (0 : Int) ≤ (y : Int) := by omega
                  have xn : (x : Int) < (N : Int) := hpe.1.2
                  have yn : (y : Int) < (N : Int) := hpe.2.2
                  obtain ⟨j, jN, hj, hPj⟩ := HPS.out.at HO.out HLen.out (a := y) (by omega)
                  obtain ⟨i, ij, hi⟩ := HO.out.edge (List.mem_of_getElem? hp) hj
                  have hPi := HPS.out.done i x hi (by omega)
                  obtain ⟨a'', c'', e', -, hli⟩ := HX.out.ed
                  injection e' with e1 e2 e3
                  subst e1 e3
                  obtain ⟨g, off, rfl, hg, p0, p1⟩ := hli k _ hp
                  simp only at p0 p1
                  have q0 := HX.out.row.lt
                  have q1 := HX.out.row.c x _ (ints_get hPi)
                  have q2 := HX.out.row.c y _ (ints_get hPj)
                  have hij : (i : Int) < (j : Int) := by omega
                  have f1 : decide ((j : Int) + 1 ≤ (i : Int) + 1) = false := decide_eq_false (by omega)
                  have f2 : decide (j ≤ i) = false := decide_eq_false (by omega)
                  clear hp hpe hj hPj hi hPi hli e2
                  go_wp2_with fail
                  go_quiet (fail)
                  go_wp2_with fail
                  go_roundw
                  case rel => exact ⟨k + 1, by omega, by congr 1, HX.out.drewN _⟩
                  case measure => simp [intOf]; omega
                case neg =>
                  go_wp2_with fail
                  clear d k0 hk
                  go_loopw [14] (fun i wx => Lp3 N w e l (.slice ad e.length cap) (.slice xa N xc) w4.heap.size P i wx) (fun i _ => N - (intOf i).toNat)
                  case atStart => exact ⟨0, Nat.zero_le _, rfl, HX.out⟩
                  case round =>
                    clear HX
                    obtain ⟨a, ha, rfl, hX⟩ := hrel
                    have HX := Lib.hid hX
                    clear hX
                    have a0 : (0 : Int) ≤ (a : Int) := by omega
                    by_cases d : (a : Int) < (N : Int)
                    case neg =>
                      go_wp2_with fail
                      go_ret
                      exact ⟨by try rfl, HX.out.below⟩
                    case pos =>
                      obtain ⟨J, JN, hJ, hPJ⟩ := HPS.out.at HO.out HLen.out (a := a) (by omega)
                      have HJ := Lib.hid hJ
                      have HPJ := Lib.hid hPJ
                      clear hJ hPJ
                      go_wp2_with fail
                      go_loopw [15, 16] (fun f i wx => Lp6 N w e l (.slice ad e.length cap) (.slice xa N xc) w4.heap.size P a f i wx) (fun _ i _ => e.length - (intOf i).toNat)
                      case atStart => exact ⟨0, 0, Nat.zero_le _, rfl, rfl, Nat.zero_le _, fun p hp => absurd hp (by simp), HX.out⟩
                      case round =>
                        clear HX
                        obtain ⟨k, F, hk, rfl, rfl, hF, hall, hX⟩ := hrel
                        have HX := Lib.hid hX
                        have HALL := Lib.hid hall
                        clear hX hall
                        have k0 : (0 : Int) ≤ (k : Int) := by omega
                        by_cases dk : (k : Int) < (e.length : Int)
                        case pos =>
                          obtain ⟨p, hp⟩ : ∃ p, e[k]? = some p := ⟨_, List.getElem?_eq_getElem (by omega)⟩
                          have Hp := Lib.hid hp
                          have hpe := HE.out p (List.mem_of_getElem? hp)
                          obtain ⟨px, py⟩ := p
                          simp only at hpe
                          obtain ⟨x, rfl⟩ := Int.eq_ofNat_of_zero_le hpe.1.1
                          have x0 : (0 : Int) ≤ (x : Int) := by omega
                          have xn : (x : Int) < (N : Int) := hpe.1.2
                          obtain ⟨t, tN, ht, hPt⟩ := HPS.out.at HO.out HLen.out (a := x) (by omega)
                          obtain ⟨a'', c'', e', -, hli⟩ := HX.out.ed
                          injection e' with e1 e2 e3
                          subst e1 e3
                          obtain ⟨g, off, rfl, hg, p0, p1⟩ := hli k _ hp
                          simp only at p0 p1
                          have q0 := HX.out.row.lt
                          have q1 := HX.out.row.c x _ (ints_get hPt)
                          have Ht := Lib.hid ht
                          have t40 : (t : Int) ≤ 40 := by omega
                          have F40 : (F : Int) ≤ 40 := by omega
                          clear hp hpe ht hPt hli e2
                          by_cases c : py = (a : Int)
                          · have f1 : (py == (a : Int)) = true := by simp [c]
                            by_cases m : F < t + 1
                            · have m1 : (F : Int) < (t : Int) + 1 := by omega
                              have m2 : (F : Int) + 1 < (t : Int) + 1 + 1 := by omega
                              have Hn : Hid (∀ p ∈ e.take (k + 1), p.2 = (a : Int) → ∃ s, s < t + 1 ∧ l[s]? = some p.1) := fun p hp1 hp2 => by
                                rw [List.take_add_one, Hp.out, List.mem_append] at hp1
                                rcases hp1 with hp1 | hp1
                                · obtain ⟨s, hs, hs2⟩ := HALL.out p hp1 hp2
                                  exact ⟨s, by omega, hs2⟩
                                · simp at hp1
                                  exact ⟨t, by omega, by rw [hp1]; exact Ht.out⟩
                              clear c m
                              go_wp2_with fail
                              go_roundw
                              case rel => exact ⟨k + 1, t + 1, by omega, by congr 1, by congr 1, by omega, Hn.out, HX.out⟩
                              case measure => simp [intOf]; omega
                            · have m1 : ¬ (F : Int) < (t : Int) + 1 := by omega
                              have m2 : ¬ (F : Int) + 1 < (t : Int) + 1 + 1 := by omega
                              have Hn : Hid (∀ p ∈ e.take (k + 1), p.2 = (a : Int) → ∃ s, s < F ∧ l[s]? = some p.1) := fun p hp1 hp2 => by
                                rw [List.take_add_one, Hp.out, List.mem_append] at hp1
                                rcases hp1 with hp1 | hp1
                                · exact HALL.out p hp1 hp2
                                · simp at hp1
                                  exact ⟨t, by omega, by rw [hp1]; exact Ht.out⟩
                              clear c m
                              go_wp2_with fail
                              go_roundw
                              case rel => exact ⟨k + 1, F, by omega, by congr 1, rfl, hF, Hn.out, HX.out⟩
                              case measure => simp [intOf]; omega
                          · have f1 : (py == (a : Int)) = false := by simp [c]
                            have Hn : Hid (∀ p ∈ e.take (k + 1), p.2 = (a : Int) → ∃ s, s < F ∧ l[s]? = some p.1) := fun p hp1 hp2 => by
                              rw [List.take_add_one, Hp.out, List.mem_append] at hp1
                              rcases hp1 with hp1 | hp1
                              · exact HALL.out p hp1 hp2
                              · simp at hp1
                                rw [hp1] at hp2
                                exact absurd hp2 c
                            clear c
                            go_wp2_with fail
                            go_roundw
                            case rel => exact ⟨k + 1, F, by omega, by congr 1, rfl, hF, Hn.out, HX.out⟩
                            case measure => simp [intOf]; omega
                        case neg =>
                          have HA2 : Hid (∀ p ∈ e, p.2 = (a : Int) → ∃ t, t < F ∧ l[t]? = some p.1) := fun p hp1 hp2 => HALL.out p (by rw [List.take_of_length_le (by omega)]; exact hp1) hp2
                          have F40 : (F : Int) ≤ 40 := by omega
                          go_wp2_with fail
                          clear dk k0 hk HALL
                          go_loopw [17] (fun i wx => Lp7 w e l (.slice ad e.length cap) (.slice xa N xc) w4.heap.size P F N i wx) (fun i _ => N + 1 - (intOf i).toNat)
                          case atStart => exact ⟨F, Nat.le_refl _, hF, rfl, HX.out⟩
                          case round =>
                            clear HX
                            obtain ⟨m, hFm, hmN, rfl, hX⟩ := hrel
                            have HX := Lib.hid hX
                            clear hX
                            have q0 := HX.out.row.lt
                            have q1 := HX.out.row.c a _ (ints_get HPJ.out)
                            have m0 : (0 : Int) ≤ (m : Int) := by omega
                            have m40 : (m : Int) ≤ 40 := by omega
                            have J40 : (J : Int) ≤ 40 := by omega
                            have m1 : (m : Int) + 1 - 1 = (m : Int) := by omega
                            by_cases c : (m : Int) < (J : Int)
                            case pos =>
                              obtain ⟨b, hb⟩ : ∃ b, l[m]? = some b := ⟨_, List.getElem?_eq_getElem (by rw [HLen.out]; omega)⟩
                              have hba := ok_greedy HO.out HJ.out hb (by omega) (fun p hp1 hp2 => by
                                obtain ⟨t, ht, ht2⟩ := HA2.out p hp1 hp2
                                exact ⟨t, by omega, ht2⟩)
                              obtain ⟨a'', c'', e', -, hli⟩ := HX.out.li
                              injection e' with e1 e2 e3
                              subst e1 e3
                              obtain ⟨g, off, rfl, hg, p0⟩ := hli m _ (ints_get hb)
                              have c1 : (m : Int) < (N : Int) := by omega
                              have c2 : (m : Int) + 1 < (J : Int) + 1 := by omega
                              have f1 : ¬ (a : Int) < b := by omega
                              clear hb hli e2
                              go_wp2_with fail
                              go_roundw
                              case rel => exact ⟨m + 1, by omega, by omega, by congr 1, HX.out⟩
                              case measure => simp [intOf]; omega
                            case neg =>
                              have c2 : ¬ (m : Int) + 1 < (J : Int) + 1 := by omega
                              go_wp2_with fail
                              go_roundw
                              case rel => exact ⟨a + 1, by omega, by congr 1, HX.out⟩
                              case measure => simp [intOf]; omega

end Go.Proofs.Ytndcbhgdlaemaaa
