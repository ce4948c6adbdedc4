/-
  The law GraphGroups' walk.
-/
import Derived.Test.YtndcbhgdlaemaaaGroupsL
import Derived.Test.YtndcbhgdlaemaaaLawB
import Derived.Test.YtndcbhgdlaemaaaHand
import Derived.Deep.DrawnRows
import Derived.Maps.AppendAt
namespace Go.Proofs.Ytndcbhgdlaemaaa
open Go.RowKit Gr
attribute [local go_sem ↓] Go.wp_at_zero Go.wp_at_succ

set_option maxHeartbeats 12800000 in
set_option maxRecDepth 100000 in
theorem GraphGroups_x (h : GraphOk) (v : Value) (n : Int) (e : E) (a b : Int) (w : World) (hat : EAt w v e) (hok : okE2 e) (hn : I64 n) (ha : I64 a) (hb : I64 b) :
    Calls Try.prog 7 #[.int .i64 n, v, .int .i64 a, .int .i64 b] w fun e w' => e = .returned (.bool true) ∧ Below w.heap.size w w' := by
  have HA := Lib.hid hat
  obtain ⟨ad, cap, rfl, -, -⟩ := hat
  have OK := Lib.hid hok
  have HN := Lib.hid hn
  have HIA := Lib.hid ha
  have HIB := Lib.hid hb
  clear hok hn ha hb
  obtain ⟨mb, hmb⟩ : ∃ mb, midB n e = mb := ⟨_, rfl⟩
  have MB := Lib.hid hmb
  cases mb with
  | false =>
    clear hmb
    go_enter Try.func7, Try.ntmps7
    go_wp2_with fail
    refine (sane_x h _).mono ?_
    rintro r w1 ⟨rfl, b1⟩
    have A1 := HA.out.below b1 (Nat.le_refl _)
    go_wp2_with fail
    refine (middle_x _ _ e _ A1).mono ?_
    rintro r w2 ⟨rfl, rfl⟩
    rw [MB.out]
    go_wp2_with fail
    go_ret
    exact ⟨by try rfl, b1⟩
  | true =>
    obtain ⟨n40, e200, hr⟩ := mid_iff.1 hmb
    have n0 := (right_iff.1 hr).1.1
    have HR := Lib.hid hr
    clear hmb hr
    by_cases a0 : a < 0
    · go_enter Try.func7, Try.ntmps7
      go_wp2_with fail
      refine (sane_x h _).mono ?_
      rintro r w1 ⟨rfl, b1⟩
      have A1 := HA.out.below b1 (Nat.le_refl _)
      go_wp2_with fail
      refine (middle_x _ _ e _ A1).mono ?_
      rintro r w2 ⟨rfl, rfl⟩
      rw [MB.out]
      go_wp2_with fail
      go_ret
      exact ⟨by try rfl, b1⟩
    by_cases a1 : n ≤ a
    · go_enter Try.func7, Try.ntmps7
      go_wp2_with fail
      refine (sane_x h _).mono ?_
      rintro r w1 ⟨rfl, b1⟩
      have A1 := HA.out.below b1 (Nat.le_refl _)
      go_wp2_with fail
      refine (middle_x _ _ e _ A1).mono ?_
      rintro r w2 ⟨rfl, rfl⟩
      rw [MB.out]
      go_wp2_with fail
      go_ret
      exact ⟨by try rfl, b1⟩
    by_cases b0 : b < 0
    · go_enter Try.func7, Try.ntmps7
      go_wp2_with fail
      refine (sane_x h _).mono ?_
      rintro r w1 ⟨rfl, b1⟩
      have A1 := HA.out.below b1 (Nat.le_refl _)
      go_wp2_with fail
      refine (middle_x _ _ e _ A1).mono ?_
      rintro r w2 ⟨rfl, rfl⟩
      rw [MB.out]
      go_wp2_with fail
      go_ret
      exact ⟨by try rfl, b1⟩
    by_cases b1' : n ≤ b
    · go_enter Try.func7, Try.ntmps7
      go_wp2_with fail
      refine (sane_x h _).mono ?_
      rintro r w1 ⟨rfl, b1⟩
      have A1 := HA.out.below b1 (Nat.le_refl _)
      go_wp2_with fail
      refine (middle_x _ _ e _ A1).mono ?_
      rintro r w2 ⟨rfl, rfl⟩
      rw [MB.out]
      go_wp2_with fail
      go_ret
      exact ⟨by try rfl, b1⟩
    obtain ⟨N, rfl⟩ := Int.eq_ofNat_of_zero_le n0
    obtain ⟨A, rfl⟩ := Int.eq_ofNat_of_zero_le (show 0 ≤ a by omega)
    obtain ⟨B, rfl⟩ := Int.eq_ofNat_of_zero_le (show 0 ≤ b by omega)
    have hl2 : e.length ≤ 1099511627776 := by omega
    have HE := Lib.hid (right_iff.1 HR.out).2.2
    have ON := Lib.hid (once_groups HR.out)
    have hAN : A < N := by omega
    have hBN : B < N := by omega
    obtain ⟨L, hL⟩ : ∃ L, groups N e = L := ⟨_, rfl⟩
    have HL := Lib.hid hL
    have hM := groups_len HR.out
    rw [hL, Int.toNat_natCast] at hM
    have hcnt : sumTo L L.length = N := by rw [sum_all, ← hL, groups_count HR.out, Int.toNat_natCast]
    have HCNT := Lib.hid hcnt
    have SLE : Hid (∀ i, sumTo L i ≤ N) := fun i => by have := sum_le L i; rw [← sum_all, HCNT.out] at this; exact this
    rw [hL] at ON
    clear hL hcnt
    obtain ⟨rj, hj, hy0, hy1, hy2⟩ := info_parts infoI
    have Hj := Lib.hid hj
    have Hy0 := Lib.hid hy0
    have Hy1 := Lib.hid hy1
    have Hy2 := Lib.hid hy2
    clear hj hy0 hy1 hy2
    go_enter Try.func7, Try.ntmps7
    go_wp2_with fail
    refine (sane_x h _).mono ?_
    rintro r w1 ⟨rfl, b1⟩
    have A1 := HA.out.below b1 (Nat.le_refl _)
    go_wp2_with fail
    refine (middle_x _ _ e _ A1).mono ?_
    rintro r w2 ⟨rfl, rfl⟩
    rw [MB.out]
    go_wp2_with fail
    refine (h.groups _ _ e _ A1 hl2 OK.out HN.out).mono ?_
    rintro r w4 ⟨x, rfl, hx, b4⟩
    rw [HL.out] at hx
    have A4 := A1.below b4 (Nat.le_refl _)
    have c4 := chain b1 b4
    obtain ⟨xa, xc, rfl, xcap, -⟩ := hx.get
    have HA4 := Lib.hid A4
    have HX4 := Lib.hid hx
    have C4 := Lib.hid c4
    clear A1 A4 hx b1 b4 c4
    go_wp2_with (at_make; refine wpList_make_full _ rfl (.tmp 50) (.tmp 50) 25 rfl w4.heap.size 3 rj (.int .i64 0) 1 Try.underlying25 Hj.out Hy0.out Hy1.out .i64 .i64 N N N rfl rfl rfl rfl ?f1 ?f2 ?f3 ?_)
    case f1 => rw [Hy2.out]; omega
    case f2 => unfold maxLen; omega
    case f3 => exact Nat.le_refl _
    intro w5 hown hgrow
    rw [made_ints] at hown
    have O5 : Hid (GX w e L (.slice ad e.length cap) (.slice xa L.length xc) w4.heap.size (List.replicate N 0) w4 w5) := ⟨Row.own hown (by simp), (Below.refl _ _).grown hgrow (Nat.le_refl _) (fun k hk => by cases hk), HA4.out, HX4.out, rfl, C4.out⟩
    clear hown hgrow
    go_wp2_with fail
    go_loopw [12, 13, 14] (fun last cnt i wr => G1 w N e L (.slice ad e.length cap) (.slice xa L.length xc) w4.heap.size N w4 last cnt i wr) (fun _ _ i _ => L.length - (intOf i).toNat)
    case atStart => exact ⟨0, _, -1, Nat.zero_le _, rfl, rfl, rfl, fun a ha => by have := (mem_heads.1 (List.mem_of_getElem? ha)).1.1; omega, QS.start ON.out 1, O5.out⟩
    case round =>
      clear O5
      obtain ⟨i, Q, hd, hi, rfl, rfl, rfl, hhd, hQ, hG⟩ := hrel
      have HG := Lib.hid hG
      have HQ := Lib.hid hQ
      have HHD := Lib.hid hhd
      clear hG hQ hhd
      have i0 : (0 : Int) ≤ (i : Int) := by omega
      by_cases d : (i : Int) < (L.length : Int)
      case pos =>
        obtain ⟨l, hl⟩ : ∃ l, L[i]? = some l := ⟨_, List.getElem?_eq_getElem (by omega)⟩
        have Hl := Lib.hid hl
        obtain ⟨hh, hhh, hlg⟩ := groups_get HR.out (show (groups N e)[i]? = some l by rw [HL.out]; exact hl)
        have hhm := mem_heads.1 (List.mem_of_getElem? hhh)
        obtain ⟨tl, htl⟩ := group_head (List.mem_of_getElem? hhh)
        rw [← hlg] at htl
        have hlt := HHD.out hh hhh
        have Hnext : Hid (∀ a, (heads N e)[i + 1]? = some a → hh < a) := fun a ha => by
          have hp := List.pairwise_iff_getElem.1 (heads_pair (N : Int) e)
          obtain ⟨i1, i2⟩ := List.getElem?_eq_some_iff.1 hhh
          obtain ⟨j1, j2⟩ := List.getElem?_eq_some_iff.1 ha
          have := hp i (i + 1) i1 j1 (by omega)
          omega
        have hpair : l.Pairwise (· < ·) := by rw [hlg]; exact group_pair _ _ _
        have HP := Lib.hid hpair
        have l0 : l[0]? = some hh := by rw [htl]; rfl
        have lpos : 0 < l.length := by rw [htl]; simp
        have lz : ((l.length : Int) == 0) = false := beq_eq_false_iff_ne.2 (by omega)
        have lnil : ¬ l = [] := fun e0 => by rw [e0] at lpos; simp at lpos
        obtain ⟨hk, rfl⟩ := Int.eq_ofNat_of_zero_le hhm.1.1
        have l40 : (l.length : Int) ≤ 40 := by
          have h1 := sum_next hl
          have h2 := SLE.out (i + 1)
          omega
        obtain ⟨xa', xc', e', -, hx⟩ := HG.out.all.2.1.get
        injection e' with e1 e2 e3
        subst e1 e3
        obtain ⟨g1, o1, la, lc, rfl, hg1, p0, lcap, sl⟩ := hx i l hl
        obtain ⟨la', lc', e', -, hsl⟩ := id sl
        injection e' with e4 e5 e6
        subst e4 e6
        obtain ⟨g2, o2, rfl, hg2, q0⟩ := hsl 0 _ (ints_get l0)
        rw [Nat.add_zero] at q0
        have dh : ¬ (hk : Int) ≤ hd := by omega
        clear hhh hlg hhm htl hx sl hsl e2 e5 hl l0 hpair
        go_wp2_with fail
        go_loopw [13, 15] (fun cnt k wx => G2 w e L (.slice ad e.length cap) (.slice (some ⟨g1, o1, none⟩) L.length xc) w4.heap.size N w4 i l cnt k wx) (fun _ k _ => l.length - (intOf k).toNat)
        case atStart => exact ⟨0, Q, Nat.zero_le _, rfl, by simp, HQ.out, HG.out⟩
        case round =>
          clear HQ HG p0 q0
          obtain ⟨k, Q, hkl, rfl, rfl, hQ, hG⟩ := hrel
          have HG := Lib.hid hG
          have HQ := Lib.hid hQ
          clear hG hQ
          have k0 : (0 : Int) ≤ (k : Int) := by omega
          obtain ⟨xa', xc', e', -, hx⟩ := HG.out.all.2.1.get
          injection e' with e1 e2 e3
          subst e3
          obtain ⟨g1', o1', la', lc', e7, hg1, p0, lcap', sl⟩ := hx i l Hl.out
          rw [← e1] at e7
          simp only [Option.some.injEq, Addr.mk.injEq, and_true] at e7
          obtain ⟨rfl, rfl⟩ := e7
          clear e1 e2
          by_cases d2 : (k : Int) < (l.length : Int)
          case neg =>
            obtain rfl : k = l.length := by omega
            have Hq : Hid (QS N L 1 (i + 1) 0 Q) := QS.turn Hl.out HQ.out
            have Hs : Hid ((sumTo L (i + 1) : Int) = (sumTo L i : Int) + (l.length : Int)) := by show _ = _; rw [sum_next Hl.out]; omega
            clear hx sl
            go_wp2_with fail
            go_roundw
            case rel => exact ⟨i + 1, Q, hk, by omega, by congr 1, rfl, by rw [Hs.out], Hnext.out, Hq.out, HG.out⟩
            case measure => simp [intOf]; omega
          case pos =>
            have kl : k < l.length := by omega
            obtain ⟨la'', lc'', e', -, hsl⟩ := id sl
            injection e' with e4 e5 e6
            subst e4 e6
            obtain ⟨x', hx'⟩ : ∃ x, l[k]? = some x := ⟨_, List.getElem?_eq_getElem kl⟩
            have xn := ON.out.node i l x' Hl.out (List.mem_of_getElem? hx')
            obtain ⟨x, rfl⟩ := Int.eq_ofNat_of_zero_le xn.1
            obtain ⟨g2', o2', rfl, hg2, q0⟩ := hsl k _ (ints_get hx')
            have x0 : (0 : Int) ≤ (x : Int) := by omega
            have xN : (x : Int) < (N : Int) := xn.2
            have f1 : decide ((x : Int) < 0) = false := decide_eq_false (by omega)
            have f2 : decide ((N : Int) ≤ (x : Int)) = false := decide_eq_false (by omega)
            have f3 : decide (N ≤ x) = false := decide_eq_false (by omega)
            have r0 := HG.out.row.lt
            have hQx := HQ.out.todo i k l x Hl.out hx' (by omega)
            have r1 := HG.out.row.c x _ (ints_get hQx)
            have r2 := HG.out.row.fz x (by rw [List.length_map, HQ.out.len]; omega)
            have Hq : Hid (QS N L 1 i (k + 1) (Q.set x ((i : Int) + 1))) := HQ.out.next ON.out Hl.out hx'
            have xQ : Hid (x < Q.length) := show _ < _ by rw [HQ.out.len]; omega
            have s40 : (sumTo L i : Int) ≤ 40 := by have := SLE.out i; omega
            have s0 : (0 : Int) ≤ (sumTo L i : Int) := by omega
            by_cases k1 : 0 < k
            · have f4 : decide (0 < k) = true := decide_eq_true k1
              obtain ⟨kp, hkp⟩ : ∃ kp : Nat, (k : Int) - 1 = (kp : Int) := ⟨k - 1, by omega⟩
              have hkp2 : kp < k := by omega
              obtain ⟨y', hy'⟩ : ∃ y, l[kp]? = some y := ⟨_, List.getElem?_eq_getElem (by omega)⟩
              have yn := ON.out.node i l y' Hl.out (List.mem_of_getElem? hy')
              obtain ⟨y, rfl⟩ := Int.eq_ofNat_of_zero_le yn.1
              have hyx : (y : Int) < (x : Int) := by
                obtain ⟨i1, i2⟩ := List.getElem?_eq_some_iff.1 hy'
                obtain ⟨j1, j2⟩ := List.getElem?_eq_some_iff.1 hx'
                have := List.pairwise_iff_getElem.1 HP.out kp k i1 j1 hkp2
                omega
              obtain ⟨g3, o3, e8, -, q1⟩ := hsl kp _ (ints_get hy')
              simp only [Option.some.injEq, Addr.mk.injEq, and_true] at e8
              obtain ⟨rfl, rfl⟩ := e8
              have kp0 : (0 : Int) ≤ (kp : Int) := by omega
              have kpl : (kp : Int) < (l.length : Int) := by omega
              have f5 : decide ((x : Int) ≤ (y : Int)) = false := decide_eq_false (by omega)
              have f6 : decide (x ≤ y) = false := decide_eq_false (by omega)
              clear hx sl hsl hx' hy' hQx e5 xn yn hyx k1
              go_wp2_with fail
              go_quiet (fail)
              go_wp2_with fail
              go_roundw
              case rel => exact ⟨k + 1, Q.set x ((i : Int) + 1), by omega, by congr 1, by congr 1 <;> omega, Hq.out, (HG.out.drewN _).set x xQ.out _⟩
              case measure => simp [intOf]; omega
            · have f4 : decide (0 < k) = false := decide_eq_false k1
              clear hx sl hsl hx' hQx e5 xn k1
              go_wp2_with fail
              go_quiet (fail)
              go_wp2_with fail
              go_roundw
              case rel => exact ⟨k + 1, Q.set x ((i : Int) + 1), by omega, by congr 1, by congr 1 <;> omega, Hq.out, (HG.out.drewN _).set x xQ.out _⟩
              case measure => simp [intOf]; omega
      case neg =>
        obtain rfl : i = L.length := by omega
        rw [HCNT.out]
        have HQN : Hid (QS N (groups N e) 1 (groups N e).length 0 Q) := by rw [HL.out]; exact HQ.out
        obtain ⟨ge, gl, gb⟩ := HG.out.all
        have GR := Lib.hid HG.out.row
        have GE := Lib.hid ge
        have GB := Lib.hid gb
        clear HHD HQ HG ge gl gb hi i0
        go_wp2_with fail
        clear d
        refine (h.reach _ _ e _ _ GE.out hl2 OK.out HN.out HIA.out).mono ?_
        rintro r w6 ⟨x6, rfl, hx6, b6⟩
        have E6 := Lib.hid (GE.out.below b6 (Nat.le_refl _))
        have R6 := Lib.hid (GR.out.below b6 GR.out.lt)
        have C6 := Lib.hid (chain GB.out b6)
        clear GE GR GB b6
        go_wp2_with fail
        refine (h.reach _ _ e _ _ E6.out hl2 OK.out HN.out HIB.out).mono ?_
        rintro r w7 ⟨x7, rfl, hx7, b7⟩
        have E7 := Lib.hid (E6.out.below b7 (Nat.le_refl _))
        have R7 := Lib.hid (R6.out.below b7 R6.out.lt)
        have C7 := Lib.hid (chain C6.out b7)
        have X6 := hx6.below b7 (Nat.le_refl _)
        clear E6 R6 C6 b7 hx6
        obtain ⟨fa, fc, rfl, fcap, HF6⟩ := own_bools X6 (show (reach N e A).length = N by rw [reach_len HR.out ⟨by omega, by omega⟩]; simp)
        obtain ⟨ta, tc, rfl, tcap, HT7⟩ := own_bools hx7 (show (reach N e B).length = N by rw [reach_len HR.out ⟨by omega, by omega⟩]; simp)
        clear X6 hx7
        obtain ⟨u, hu⟩ : ∃ u, reachB e A B = u := ⟨_, rfl⟩
        obtain ⟨t, ht⟩ : ∃ t, reachB e B A = t := ⟨_, rfl⟩
        obtain ⟨fg, foff, rfl, lt3, m3⟩ := HF6.out B u (by rw [reach_get HR.out ⟨by omega, by omega⟩ (by simpa using hBN), hu])
        obtain ⟨tg, toff, rfl, lt4, m4⟩ := HT7.out A t (by rw [reach_get HR.out ⟨by omega, by omega⟩ (by simpa using hAN), ht])
        have Hu := Lib.hid hu
        have Ht := Lib.hid ht
        have M3 := Lib.hid m3
        have M4 := Lib.hid m4
        have LT3 := Lib.hid lt3
        have LT4 := Lib.hid lt4
        clear hu ht HF6 HT7 m3 m4 lt3 lt4
        go_wp2_with fail
        go_loopw [18] (fun i wr => ReRel N w7 i wr) (fun i _ => N - (intOf i).toNat)
        case atStart => exact ⟨0, Nat.zero_le _, rfl, rfl⟩
        case round =>
          obtain ⟨k, hk, rfl, rfl⟩ := hrel
          have k0 : (0 : Int) ≤ (k : Int) := by omega
          by_cases c : (k : Int) < (N : Int)
          case pos =>
            obtain ⟨j, s, m, hj, hs, hq⟩ := HQN.out.at HR.out (x := k) (by omega)
            have q0 := R7.out.lt
            have q1 := R7.out.c k _ (ints_get hq)
            have f1 : ((j : Int) + 1 == 0) = false := beq_eq_false_iff_ne.2 (by omega)
            have f2 : ¬ (j : Int) + 1 = 0 := by omega
            clear hj hs hq
            go_wp2_with fail
            go_roundw
            case rel => exact ⟨k + 1, by omega, by congr 1, rfl⟩
            case measure => simp [intOf]; omega
          case neg =>
            go_wp2_with fail
            clear c k0 hk
            go_loopw [19, 20] (fun b i wr => G4 e Q w7 b i wr) (fun _ i _ => e.length - (intOf i).toNat)
            case atStart => exact ⟨0, [], none, 0, Nat.zero_le _, rfl, rfl, Nat.le_refl _, fun p hp => absurd hp (by simp), World.ownsRow_nil _ _ _ _, Below.refl _ _⟩
            case round =>
              obtain ⟨k, f, va, vc, hk, rfl, rfl, hfk, hFS, hown, hbel⟩ := hrel
              have k0 : (0 : Int) ≤ (k : Int) := by omega
              have E8 := E7.out.below hbel (Nat.le_refl _)
              have R8 := R7.out.below hbel R7.out.lt
              have HFS := Lib.hid hFS
              have HOWN := Lib.hid hown
              have HBEL := Lib.hid hbel
              have bsz := hbel.size
              clear hFS hown hbel
              by_cases c : (k : Int) < (e.length : Int)
              case pos =>
                obtain ⟨p, hp⟩ : ∃ p, e[k]? = some p := ⟨_, List.getElem?_eq_getElem (by omega)⟩
                have Hp := Lib.hid hp
                have hpe := HE.out p (List.mem_of_getElem? hp)
                obtain ⟨px, py⟩ := p
                simp only at hpe
                obtain ⟨x, rfl⟩ := Int.eq_ofNat_of_zero_le hpe.1.1
                obtain ⟨y, rfl⟩ := Int.eq_ofNat_of_zero_le hpe.2.1
                have x0 : (0 : Int) ≤ (x : Int) := by omega
                have y0 : (0 : Int) ≤ (y : Int) := by omega
                have xn : (x : Int) < (N : Int) := hpe.1.2
                have yn : (y : Int) < (N : Int) := hpe.2.2
                obtain ⟨jx, sx, mx, hjx, hsx, hqx⟩ := HQN.out.at HR.out (x := x) (by omega)
                obtain ⟨jy, sy, my, hjy, hsy, hqy⟩ := HQN.out.at HR.out (x := y) (by omega)
                have jxM : (jx : Int) ≤ 40 := by have := (List.getElem?_eq_some_iff.1 hjx).1; rw [HL.out] at this; omega
                have jyM : (jy : Int) ≤ 40 := by have := (List.getElem?_eq_some_iff.1 hjy).1; rw [HL.out] at this; omega
                obtain ⟨a'', c'', e', -, hli⟩ := E8
                injection e' with e1 e2 e3
                subst e1 e3
                obtain ⟨g, off, rfl, hg, p0, p1⟩ := hli k _ hp
                simp only at p0 p1
                have q0 := R8.lt
                have q1 := R8.c x _ (ints_get hqx)
                have q2 := R8.c y _ (ints_get hqy)
                have m1 : (jx : Int) + 1 - 1 = (jx : Int) := by omega
                have m2 : (jy : Int) + 1 - 1 = (jy : Int) := by omega
                have ix : Hid (idxQ Q (x : Int) = (jx : Int)) := by show _ = _; unfold idxQ; rw [Int.toNat_natCast, hqx]; simp
                have iy : Hid (idxQ Q (y : Int) = (jy : Int)) := by show _ = _; unfold idxQ; rw [Int.toNat_natCast, hqy]; simp
                clear hp hpe hjx hsx hqx hjy hsy hqy hli e2 R8
                by_cases cj : jx = jy
                · obtain rfl := cj
                  go_wp2_with fail
                  go_roundw
                  case rel => exact ⟨k + 1, f, va, vc, by omega, by congr 1, rfl, by omega, HFS.out, HOWN.out, HBEL.out⟩
                  case measure => simp [intOf]; omega
                · have f1 : ((jx : Int) != (jy : Int)) = true := bne_iff_ne.2 (by omega)
                  have Hn : Hid (FS e Q (f ++ [((jx : Int), (jy : Int))])) := fun p hp => by
                    rcases List.mem_append.1 hp with hp | hp
                    · exact HFS.out p hp
                    · rw [List.mem_singleton.1 hp]
                      exact ⟨fun h => cj (by simp only at h; omega), ((x : Int), (y : Int)), List.mem_of_getElem? Hp.out, ix.out.symm, iy.out.symm⟩
                  obtain ⟨ri, hi2, hz0, hz1, hz2⟩ := info_parts infoE
                  go_wp2_with (at_builtin; refine wpList_append_own _ rfl (.tmp 201) (.tmp 205) 22 rfl w7.heap.size 40 ri (.agg #[.int .i64 0, .int .i64 0]) 2 16 Try.underlying22 hi2 hz0 hz1 hz2 rfl (by decide) _ f.length (edgesC f) rfl (HOWN.out.alloc _) ⟨wr.heap.size, 0, none⟩ 1 1 (edgesC [((jx : Int), (jy : Int))]) rfl rfl ?f1 ?f2 ?f3 ?f4 ?f5 ?_)
                  case f1 => intro j u hu; rw [add_plain, Nat.zero_add]; exact cell_new hu
                  case f2 => exact edgesC_one _
                  case f3 => unfold maxLen; omega
                  case f4 => omega
                  case f5 => simp; omega
                  intro v9 w9 hown9 hgrow9 _
                  have bel9 : Below w7.heap.size w7 w9 := (HBEL.out.alloc bsz _).grown hgrow9 (by simp; omega) (fun k hk => (HOWN.out.lt k hk).1)
                  have own9 : w9.ownsRow w7.heap.size 40 2 v9 (f ++ [((jx : Int), (jy : Int))]).length (edgesC (f ++ [((jx : Int), (jy : Int))])) := by rw [edgesC_app, List.length_append]; exact hown9
                  have BEL9 := Lib.hid bel9
                  have OWN9 := Lib.hid own9
                  obtain ⟨va', vc', e9⟩ : ∃ va' vc', v9 = .slice va' (f ++ [((jx : Int), (jy : Int))]).length vc' := by
                    obtain ⟨a, c, h, -⟩ := EAt.own own9 rfl rfl
                    exact ⟨a, c, h⟩
                  subst e9
                  clear hown9 hgrow9 bel9 own9 hi2 hz0 hz1 hz2
                  go_wp2_with fail
                  go_roundw
                  case rel => exact ⟨k + 1, f ++ [((jx : Int), (jy : Int))], va', vc', by omega, by congr 1, rfl, by rw [List.length_append]; simp; omega, Hn.out, OWN9.out, BEL9.out⟩
                  case measure => simp [intOf]; omega
              case neg =>
                obtain ⟨ja, sa, ma, hja, hsa, hqa⟩ := HQN.out.at HR.out (x := A) hAN
                obtain ⟨jb, sb, mb', hjb, hsb, hqb⟩ := HQN.out.at HR.out (x := B) hBN
                have hsame := groups_same HR.out hja (List.mem_of_getElem? hsa) hjb (List.mem_of_getElem? hsb)
                have hsame2 : ja = jb ↔ (u && t) = true := by rw [hsame]; unfold mutB; rw [Hu.out, Ht.out]
                have EF := Lib.hid (EAt.own HOWN.out rfl rfl)
                have FL : Hid (f.length ≤ 1099511627776) := show _ ≤ _ by omega
                have FK : Hid (okE2 f) := fun p hp => by
                  obtain ⟨-, q, hq, h1, h2⟩ := HFS.out p hp
                  obtain ⟨n1, n2⟩ := HE.out q hq
                  have key : ∀ z : Int, 0 ≤ z → z < N → I64 (idxQ Q z) := fun z z0 z1 => by
                    obtain ⟨zz, rfl⟩ := Int.eq_ofNat_of_zero_le z0
                    obtain ⟨j, s, m, hj, -, hqz⟩ := HQN.out.at HR.out (x := zz) (by omega)
                    have := (List.getElem?_eq_some_iff.1 hj).1
                    rw [HL.out] at this
                    unfold idxQ
                    rw [Int.toNat_natCast, hqz]
                    exact small_I64 (by simp <;> omega) (by simp <;> omega)
                  rw [h1, h2]
                  exact ⟨key _ n1.1 n1.2, key _ n2.1 n2.2⟩
                have ML : Hid (I64 (L.length : Int)) := small_I64 (by omega) (by omega)
                have CY : Hid (cycle (L.length : Int) f = []) := by
                  show _ = _
                  cases hrf : rightB (L.length : Int) f with
                  | false => exact cycle_wrong hrf
                  | true => exact (cycle_none hrf).2 (between_acyclic HR.out (isIdx HQN.out HR.out) HFS.out)
                have WS : Hid (w.heap.size ≤ wr.heap.size) := show _ ≤ _ by have := C7.out.size; omega
                have BW : Hid (Below w.heap.size w7 wr) := HBEL.out.mono C7.out.size
                have lt1 : (⟨w4.heap.size, A, none⟩ : Addr).block < wr.heap.size := by have := R7.out.lt; show w4.heap.size < _; omega
                have lt3 : (⟨fg, foff + B, none⟩ : Addr).block < wr.heap.size := Nat.lt_of_lt_of_le LT3.out bsz
                have lt4 : (⟨tg, toff + A, none⟩ : Addr).block < wr.heap.size := Nat.lt_of_lt_of_le LT4.out bsz
                have s1 := R8.c A _ (ints_get hqa)
                have s2 := R8.c B _ (ints_get hqb)
                have s3 : wr.cell? ⟨fg, foff + B, none⟩ = some (.bool u) := by rw [HBEL.out.cell (p := ⟨fg, foff + B, none⟩) LT3.out]; exact M3.out
                have s4 : wr.cell? ⟨tg, toff + A, none⟩ = some (.bool t) := by rw [HBEL.out.cell (p := ⟨tg, toff + A, none⟩) LT4.out]; exact M4.out
                have A0 : (0 : Int) ≤ (A : Int) := by omega
                have B0 : (0 : Int) ≤ (B : Int) := by omega
                have AN : (A : Int) < (N : Int) := by omega
                have BN : (B : Int) < (N : Int) := by omega
                clear hja hsa hqa hjb hsb hqb hsame E8 R8 HOWN HFS hfk
                cases u with
                | true =>
                  cases t with
                  | true =>
                    obtain rfl := hsame2.2 rfl
                    clear hsame2
                    go_wp2_with fail
                    refine wp_region_held_drew (S := fun w' => Below wr.heap.size wr w' ∧ w'.cell? ⟨w4.heap.size, A, none⟩ = some (.int .i64 ((ja : Int) + 1)) ∧ w'.cell? ⟨w4.heap.size, B, none⟩ = some (.int .i64 ((ja : Int) + 1)) ∧ w'.cell? ⟨fg, foff + B, none⟩ = some (.bool true) ∧ w'.cell? ⟨tg, toff + A, none⟩ = some (.bool true)) (by kernel_rfl) ?_ (fun hHeld => ?_)
                    · exact c4_drew ⟨Below.refl _ _, s1, s2, s3, s4⟩
                    refine takeN0 (v := ?_) (by kernel_rfl) (by kernel_rfl) (by kernel_rfl) (fun _ _ _ h => h) (by rfl) ?_ (by assumption) ?_
                    rotate_left
                    · intro w hSw
                      try dsimp only at hSw
                      go_simp
                      try with_reducible rfl
                    try simp only [Act.put, List.setIfInBounds_toArray, List.set_cons_zero, List.set_cons_succ]
                    refine takeN1 (v := ?_) (by kernel_rfl) (by kernel_rfl) (by kernel_rfl) (fun _ _ _ h => h) (by rfl) ?_ (by assumption) ?_
                    rotate_left
                    · intro w hSw
                      try dsimp only at hSw
                      go_simp
                      try with_reducible rfl
                    try simp only [Act.put, List.setIfInBounds_toArray, List.set_cons_zero, List.set_cons_succ]
                    refine takeN2 (v := ?_) (by kernel_rfl) (by kernel_rfl) (by kernel_rfl) (fun _ _ _ h => h) (by rfl) ?_ (by assumption) ?_
                    rotate_left
                    · intro w hSw
                      try dsimp only at hSw
                      go_simp
                      try with_reducible rfl
                    try simp only [Act.put, List.setIfInBounds_toArray, List.set_cons_zero, List.set_cons_succ]
                    refine takeN3 (v := ?_) (by kernel_rfl) (by kernel_rfl) (by kernel_rfl) (fun _ _ _ h => h) (by rfl) ?_ (by assumption) ?_
                    rotate_left
                    · intro w hSw
                      try dsimp only at hSw
                      go_simp
                      try with_reducible rfl
                    try simp only [Act.put, List.setIfInBounds_toArray, List.set_cons_zero, List.set_cons_succ]
                    refine takeN4 (v := ?_) (by kernel_rfl) (by kernel_rfl) (by kernel_rfl) (fun _ _ _ h => h) (by rfl) ?_ (by assumption) ?_
                    rotate_left
                    · intro w hSw
                      try dsimp only at hSw
                      go_simp
                      try with_reducible rfl
                    try simp only [Act.put, List.setIfInBounds_toArray, List.set_cons_zero, List.set_cons_succ]
                    refine takeN5 (v := ?_) (by kernel_rfl) (by kernel_rfl) (by kernel_rfl) (fun _ _ _ h => h) (by rfl) ?_ (by assumption) ?_
                    rotate_left
                    · intro w hSw
                      try dsimp only at hSw
                      go_simp
                      try with_reducible rfl
                    try simp only [Act.put, List.setIfInBounds_toArray, List.set_cons_zero, List.set_cons_succ]
                    refine takeN6 (v := ?_) (by kernel_rfl) (by kernel_rfl) (by kernel_rfl) (fun _ _ _ h => h) (by rfl) ?_ (by assumption) ?_
                    rotate_left
                    · intro w hSw
                      try dsimp only at hSw
                      go_simp
                      try with_reducible rfl
                    try simp only [Act.put, List.setIfInBounds_toArray, List.set_cons_zero, List.set_cons_succ]
                    refine takeN7 (v := ?_) (by kernel_rfl) (by kernel_rfl) (by kernel_rfl) (fun _ _ _ h => h) (by rfl) ?_ (by assumption) ?_
                    rotate_left
                    · intro w hSw
                      try dsimp only at hSw
                      go_simp
                      try with_reducible rfl
                    try simp only [Act.put, List.setIfInBounds_toArray, List.set_cons_zero, List.set_cons_succ]
                    refine takeN8 (v := ?_) (by kernel_rfl) (by kernel_rfl) (by kernel_rfl) (fun _ _ _ h => h) (by rfl) ?_ (by assumption) ?_
                    rotate_left
                    · intro w hSw
                      try dsimp only at hSw
                      go_simp
                      try with_reducible rfl
                    try simp only [Act.put, List.setIfInBounds_toArray, List.set_cons_zero, List.set_cons_succ]
                    refine takeN9 (v := ?_) (by kernel_rfl) (by kernel_rfl) (by kernel_rfl) (fun _ _ _ h => h) (by rfl) ?_ (by assumption) ?_
                    rotate_left
                    · intro w hSw
                      try dsimp only at hSw
                      go_simp
                      try with_reducible rfl
                    try simp only [Act.put, List.setIfInBounds_toArray, List.set_cons_zero, List.set_cons_succ]
                    refine takeN10 (v := ?_) (by kernel_rfl) (by kernel_rfl) (by kernel_rfl) (fun _ _ _ h => h) (by rfl) ?_ (by assumption) ?_
                    rotate_left
                    · intro w hSw
                      try dsimp only at hSw
                      go_simp
                      try with_reducible rfl
                    try simp only [Act.put, List.setIfInBounds_toArray, List.set_cons_zero, List.set_cons_succ]
                    refine takeN11 (v := ?_) (by kernel_rfl) (by kernel_rfl) (by kernel_rfl) (fun _ _ _ h => h) (by rfl) ?_ (by assumption) ?_
                    rotate_left
                    · intro w hSw
                      try dsimp only at hSw
                      go_simp
                      try with_reducible rfl
                    try simp only [Act.put, List.setIfInBounds_toArray, List.set_cons_zero, List.set_cons_succ]
                    refine takeN12 (v := ?_) (by kernel_rfl) (by kernel_rfl) (by kernel_rfl) (fun _ _ _ h => h) (by rfl) ?_ (by assumption) ?_
                    rotate_left
                    · intro w hSw
                      try dsimp only at hSw
                      go_simp
                      try with_reducible rfl
                    try simp only [Act.put, List.setIfInBounds_toArray, List.set_cons_zero, List.set_cons_succ]
                    refine takeN13 (v := ?_) (by kernel_rfl) (by kernel_rfl) (by kernel_rfl) (fun _ _ _ h => h) (by rfl) ?_ (by assumption) ?_
                    rotate_left
                    · intro w hSw
                      try dsimp only at hSw
                      go_simp
                      try with_reducible rfl
                    try simp only [Act.put, List.setIfInBounds_toArray, List.set_cons_zero, List.set_cons_succ]
                    refine takeN14 (v := ?_) (by kernel_rfl) (by kernel_rfl) (by kernel_rfl) (fun _ _ _ h => h) (by rfl) ?_ (by assumption) ?_
                    rotate_left
                    · intro w hSw
                      try dsimp only at hSw
                      go_simp
                      try with_reducible rfl
                    try simp only [Act.put, List.setIfInBounds_toArray, List.set_cons_zero, List.set_cons_succ]
                    refine takeN15 (v := ?_) (by kernel_rfl) (by kernel_rfl) (by kernel_rfl) (fun _ _ _ h => h) (by rfl) ?_ (by assumption) ?_
                    rotate_left
                    · intro w hSw
                      try dsimp only at hSw
                      go_simp
                      try with_reducible rfl
                    try simp only [Act.put, List.setIfInBounds_toArray, List.set_cons_zero, List.set_cons_succ]
                    refine takeN16 (v := ?_) (by kernel_rfl) (by kernel_rfl) (by kernel_rfl) (fun _ _ _ h => h) (by rfl) ?_ (by assumption) ?_
                    rotate_left
                    · intro w hSw
                      try dsimp only at hSw
                      go_simp
                      try with_reducible rfl
                    try simp only [Act.put, List.setIfInBounds_toArray, List.set_cons_zero, List.set_cons_succ]
                    refine takeN17 (v := ?_) (by kernel_rfl) (by kernel_rfl) (by kernel_rfl) (fun _ _ _ h => h) (by rfl) ?_ (by assumption) ?_
                    rotate_left
                    · intro w hSw
                      try dsimp only at hSw
                      go_simp
                      try with_reducible rfl
                    try simp only [Act.put, List.setIfInBounds_toArray, List.set_cons_zero, List.set_cons_succ]
                    refine takeN18 (v := ?_) (by kernel_rfl) (by kernel_rfl) (by kernel_rfl) (fun _ _ _ h => h) (by rfl) ?_ (by assumption) ?_
                    rotate_left
                    · intro w hSw
                      try dsimp only at hSw
                      go_simp
                      try with_reducible rfl
                    try simp only [Act.put, List.setIfInBounds_toArray, List.set_cons_zero, List.set_cons_succ]
                    refine takeN19 (v := ?_) (by kernel_rfl) (by kernel_rfl) (by kernel_rfl) (fun _ _ _ h => h) (by rfl) ?_ (by assumption) ?_
                    rotate_left
                    · intro w hSw
                      try dsimp only at hSw
                      go_simp
                      try with_reducible rfl
                    try simp only [Act.put, List.setIfInBounds_toArray, List.set_cons_zero, List.set_cons_succ]
                    refine takeN20 (v := ?_) (by kernel_rfl) (by kernel_rfl) (by kernel_rfl) (fun _ _ _ h => h) (by rfl) ?_ (by assumption) ?_
                    rotate_left
                    · intro w hSw
                      try dsimp only at hSw
                      go_simp
                      try with_reducible rfl
                    try simp only [Act.put, List.setIfInBounds_toArray, List.set_cons_zero, List.set_cons_succ]
                    refine takeN21 (v := ?_) (by kernel_rfl) (by kernel_rfl) (by kernel_rfl) (fun _ _ _ h => h) (by rfl) ?_ (by assumption) ?_
                    rotate_left
                    · intro w hSw
                      try dsimp only at hSw
                      go_simp
                      try with_reducible rfl
                    try simp only [Act.put, List.setIfInBounds_toArray, List.set_cons_zero, List.set_cons_succ]
                    refine takeN22 (v := ?_) (by kernel_rfl) (by kernel_rfl) (by kernel_rfl) (fun _ _ _ h => h) (by rfl) ?_ (by assumption) ?_
                    rotate_left
                    · intro w hSw
                      try dsimp only at hSw
                      go_simp
                      try with_reducible rfl
                    try simp only [Act.put, List.setIfInBounds_toArray, List.set_cons_zero, List.set_cons_succ]
                    refine takeN23 (v := ?_) (by kernel_rfl) (by kernel_rfl) (by kernel_rfl) (fun _ _ _ h => h) (by rfl) ?_ (by assumption) ?_
                    rotate_left
                    · intro w hSw
                      try dsimp only at hSw
                      go_simp
                      try with_reducible rfl
                    try simp only [Act.put, List.setIfInBounds_toArray, List.set_cons_zero, List.set_cons_succ]
                    refine takeN24 (v := ?_) (by kernel_rfl) (by kernel_rfl) (by kernel_rfl) (fun _ _ _ h => h) (by rfl) ?_ (by assumption) ?_
                    rotate_left
                    · intro w hSw
                      try dsimp only at hSw
                      go_simp
                      try with_reducible rfl
                    try simp only [Act.put, List.setIfInBounds_toArray, List.set_cons_zero, List.set_cons_succ]
                    refine takeN25 (v := ?_) (by kernel_rfl) (by kernel_rfl) (by kernel_rfl) (fun _ _ _ h => h) (by rfl) ?_ (by assumption) ?_
                    rotate_left
                    · intro w hSw
                      try dsimp only at hSw
                      go_simp
                      try with_reducible rfl
                    try simp only [Act.put, List.setIfInBounds_toArray, List.set_cons_zero, List.set_cons_succ]
                    refine takeN26 (v := ?_) (by kernel_rfl) (by kernel_rfl) (by kernel_rfl) (fun _ _ _ h => h) (by rfl) ?_ (by assumption) ?_
                    rotate_left
                    · intro w hSw
                      try dsimp only at hSw
                      go_simp
                      try with_reducible rfl
                    try simp only [Act.put, List.setIfInBounds_toArray, List.set_cons_zero, List.set_cons_succ]
                    refine comeN27 (by kernel_rfl) (by rfl) (fun K hK => ?_)
                    go_simp
                    (go_at_call 17; refine (h.cycle _ (L.length : Int) f _ (EF.out.below hHeld.1 (Nat.le_refl _)) FL.out FK.out ML.out).mono ?_; rintro r w' ⟨x9, rfl, hx9, hb⟩; rw [CY.out] at hx9; obtain ⟨a9, c9, rfl, -, -⟩ := hx9; have hk4 := c4_next lt1 lt1 lt3 lt4 hHeld hb; clear hb)
                    try go_wp2_with fail
                    refine hK.out _ _ ?_ (fun hHeld => ?_)
                    · exact hk4
                    clear hK K
                    try simp only [Act.put, List.setIfInBounds_toArray, List.set_cons_zero, List.set_cons_succ]
                    refine takeN28 (v := ?_) (by kernel_rfl) (by kernel_rfl) (by kernel_rfl) (fun _ _ _ h => h) (by rfl) ?_ (by assumption) ?_
                    rotate_left
                    · intro w hSw
                      try dsimp only at hSw
                      go_simp
                      try with_reducible rfl
                    try simp only [Act.put, List.setIfInBounds_toArray, List.set_cons_zero, List.set_cons_succ]
                    refine takeN29 (v := ?_) (by kernel_rfl) (by kernel_rfl) (by kernel_rfl) (fun _ _ _ h => h) (by rfl) ?_ (by assumption) ?_
                    rotate_left
                    · intro w hSw
                      try dsimp only at hSw
                      go_simp
                      try with_reducible rfl
                    try simp only [Act.put, List.setIfInBounds_toArray, List.set_cons_zero, List.set_cons_succ]
                    refine takeN30 (v := ?_) (by kernel_rfl) (by kernel_rfl) (by kernel_rfl) (fun _ _ _ h => h) (by rfl) ?_ (by assumption) ?_
                    rotate_left
                    · intro w hSw
                      try dsimp only at hSw
                      go_simp
                      try with_reducible rfl
                    try simp only [Act.put, List.setIfInBounds_toArray, List.set_cons_zero, List.set_cons_succ]
                    refine takeN31 (v := ?_) (by kernel_rfl) (by kernel_rfl) (by kernel_rfl) (fun _ _ _ h => h) (by rfl) ?_ (by assumption) ?_
                    rotate_left
                    · intro w hSw
                      try dsimp only at hSw
                      go_simp
                      try with_reducible rfl
                    try simp only [Act.put, List.setIfInBounds_toArray, List.set_cons_zero, List.set_cons_succ]
                    refine wpAnyH_done (by kernel_rfl) ?_ _
                    have hbl := C7.out.trans (BW.out.trans (hk4.1.mono WS.out))
                    go_wp2_with fail
                    go_ret
                    exact ⟨by try rfl, hbl⟩
                  | false =>
                    have hne : ¬ ja = jb := fun e0 => absurd (hsame2.1 e0) (by simp)
                    have f1 : ((ja : Int) + 1 == (jb : Int) + 1) = false := beq_eq_false_iff_ne.2 (by omega)
                    have f2 : ((ja : Int) == (jb : Int)) = false := beq_eq_false_iff_ne.2 (by omega)
                    have f3 : (ja == jb) = false := beq_eq_false_iff_ne.2 hne
                    clear hsame2
                    go_wp2_with fail
                    refine wp_region_held_drew (S := fun w' => Below wr.heap.size wr w' ∧ w'.cell? ⟨w4.heap.size, A, none⟩ = some (.int .i64 ((ja : Int) + 1)) ∧ w'.cell? ⟨w4.heap.size, B, none⟩ = some (.int .i64 ((jb : Int) + 1)) ∧ w'.cell? ⟨fg, foff + B, none⟩ = some (.bool true) ∧ w'.cell? ⟨tg, toff + A, none⟩ = some (.bool false)) (by kernel_rfl) ?_ (fun hHeld => ?_)
                    · exact c4_drew ⟨Below.refl _ _, s1, s2, s3, s4⟩
                    refine takeN0 (v := ?_) (by kernel_rfl) (by kernel_rfl) (by kernel_rfl) (fun _ _ _ h => h) (by rfl) ?_ (by assumption) ?_
                    rotate_left
                    · intro w hSw
                      try dsimp only at hSw
                      go_simp
                      try with_reducible rfl
                    try simp only [Act.put, List.setIfInBounds_toArray, List.set_cons_zero, List.set_cons_succ]
                    refine takeN1 (v := ?_) (by kernel_rfl) (by kernel_rfl) (by kernel_rfl) (fun _ _ _ h => h) (by rfl) ?_ (by assumption) ?_
                    rotate_left
                    · intro w hSw
                      try dsimp only at hSw
                      go_simp
                      try with_reducible rfl
                    try simp only [Act.put, List.setIfInBounds_toArray, List.set_cons_zero, List.set_cons_succ]
                    refine takeN2 (v := ?_) (by kernel_rfl) (by kernel_rfl) (by kernel_rfl) (fun _ _ _ h => h) (by rfl) ?_ (by assumption) ?_
                    rotate_left
                    · intro w hSw
                      try dsimp only at hSw
                      go_simp
                      try with_reducible rfl
                    try simp only [Act.put, List.setIfInBounds_toArray, List.set_cons_zero, List.set_cons_succ]
                    refine takeN3 (v := ?_) (by kernel_rfl) (by kernel_rfl) (by kernel_rfl) (fun _ _ _ h => h) (by rfl) ?_ (by assumption) ?_
                    rotate_left
                    · intro w hSw
                      try dsimp only at hSw
                      go_simp
                      try with_reducible rfl
                    try simp only [Act.put, List.setIfInBounds_toArray, List.set_cons_zero, List.set_cons_succ]
                    refine takeN4 (v := ?_) (by kernel_rfl) (by kernel_rfl) (by kernel_rfl) (fun _ _ _ h => h) (by rfl) ?_ (by assumption) ?_
                    rotate_left
                    · intro w hSw
                      try dsimp only at hSw
                      go_simp
                      try with_reducible rfl
                    try simp only [Act.put, List.setIfInBounds_toArray, List.set_cons_zero, List.set_cons_succ]
                    refine takeN5 (v := ?_) (by kernel_rfl) (by kernel_rfl) (by kernel_rfl) (fun _ _ _ h => h) (by rfl) ?_ (by assumption) ?_
                    rotate_left
                    · intro w hSw
                      try dsimp only at hSw
                      go_simp
                      try with_reducible rfl
                    try simp only [Act.put, List.setIfInBounds_toArray, List.set_cons_zero, List.set_cons_succ]
                    refine takeN6 (v := ?_) (by kernel_rfl) (by kernel_rfl) (by kernel_rfl) (fun _ _ _ h => h) (by rfl) ?_ (by assumption) ?_
                    rotate_left
                    · intro w hSw
                      try dsimp only at hSw
                      go_simp
                      try with_reducible rfl
                    try simp only [Act.put, List.setIfInBounds_toArray, List.set_cons_zero, List.set_cons_succ]
                    refine takeN7 (v := ?_) (by kernel_rfl) (by kernel_rfl) (by kernel_rfl) (fun _ _ _ h => h) (by rfl) ?_ (by assumption) ?_
                    rotate_left
                    · intro w hSw
                      try dsimp only at hSw
                      go_simp
                      try with_reducible rfl
                    try simp only [Act.put, List.setIfInBounds_toArray, List.set_cons_zero, List.set_cons_succ]
                    refine takeN8 (v := ?_) (by kernel_rfl) (by kernel_rfl) (by kernel_rfl) (fun _ _ _ h => h) (by rfl) ?_ (by assumption) ?_
                    rotate_left
                    · intro w hSw
                      try dsimp only at hSw
                      go_simp
                      try with_reducible rfl
                    try simp only [Act.put, List.setIfInBounds_toArray, List.set_cons_zero, List.set_cons_succ]
                    refine takeN9 (v := ?_) (by kernel_rfl) (by kernel_rfl) (by kernel_rfl) (fun _ _ _ h => h) (by rfl) ?_ (by assumption) ?_
                    rotate_left
                    · intro w hSw
                      try dsimp only at hSw
                      go_simp
                      try with_reducible rfl
                    try simp only [Act.put, List.setIfInBounds_toArray, List.set_cons_zero, List.set_cons_succ]
                    refine takeN10 (v := ?_) (by kernel_rfl) (by kernel_rfl) (by kernel_rfl) (fun _ _ _ h => h) (by rfl) ?_ (by assumption) ?_
                    rotate_left
                    · intro w hSw
                      try dsimp only at hSw
                      go_simp
                      try with_reducible rfl
                    try simp only [Act.put, List.setIfInBounds_toArray, List.set_cons_zero, List.set_cons_succ]
                    refine takeN11 (v := ?_) (by kernel_rfl) (by kernel_rfl) (by kernel_rfl) (fun _ _ _ h => h) (by rfl) ?_ (by assumption) ?_
                    rotate_left
                    · intro w hSw
                      try dsimp only at hSw
                      go_simp
                      try with_reducible rfl
                    try simp only [Act.put, List.setIfInBounds_toArray, List.set_cons_zero, List.set_cons_succ]
                    refine takeN12 (v := ?_) (by kernel_rfl) (by kernel_rfl) (by kernel_rfl) (fun _ _ _ h => h) (by rfl) ?_ (by assumption) ?_
                    rotate_left
                    · intro w hSw
                      try dsimp only at hSw
                      go_simp
                      try with_reducible rfl
                    try simp only [Act.put, List.setIfInBounds_toArray, List.set_cons_zero, List.set_cons_succ]
                    refine takeN13 (v := ?_) (by kernel_rfl) (by kernel_rfl) (by kernel_rfl) (fun _ _ _ h => h) (by rfl) ?_ (by assumption) ?_
                    rotate_left
                    · intro w hSw
                      try dsimp only at hSw
                      go_simp
                      try with_reducible rfl
                    try simp only [Act.put, List.setIfInBounds_toArray, List.set_cons_zero, List.set_cons_succ]
                    refine takeN14 (v := ?_) (by kernel_rfl) (by kernel_rfl) (by kernel_rfl) (fun _ _ _ h => h) (by rfl) ?_ (by assumption) ?_
                    rotate_left
                    · intro w hSw
                      try dsimp only at hSw
                      go_simp
                      try with_reducible rfl
                    try simp only [Act.put, List.setIfInBounds_toArray, List.set_cons_zero, List.set_cons_succ]
                    refine takeN15 (v := ?_) (by kernel_rfl) (by kernel_rfl) (by kernel_rfl) (fun _ _ _ h => h) (by rfl) ?_ (by assumption) ?_
                    rotate_left
                    · intro w hSw
                      try dsimp only at hSw
                      go_simp
                      try with_reducible rfl
                    try simp only [Act.put, List.setIfInBounds_toArray, List.set_cons_zero, List.set_cons_succ]
                    refine takeN16 (v := ?_) (by kernel_rfl) (by kernel_rfl) (by kernel_rfl) (fun _ _ _ h => h) (by rfl) ?_ (by assumption) ?_
                    rotate_left
                    · intro w hSw
                      try dsimp only at hSw
                      go_simp
                      try with_reducible rfl
                    try simp only [Act.put, List.setIfInBounds_toArray, List.set_cons_zero, List.set_cons_succ]
                    refine takeN17 (v := ?_) (by kernel_rfl) (by kernel_rfl) (by kernel_rfl) (fun _ _ _ h => h) (by rfl) ?_ (by assumption) ?_
                    rotate_left
                    · intro w hSw
                      try dsimp only at hSw
                      go_simp
                      try with_reducible rfl
                    try simp only [Act.put, List.setIfInBounds_toArray, List.set_cons_zero, List.set_cons_succ]
                    refine takeN18 (v := ?_) (by kernel_rfl) (by kernel_rfl) (by kernel_rfl) (fun _ _ _ h => h) (by rfl) ?_ (by assumption) ?_
                    rotate_left
                    · intro w hSw
                      try dsimp only at hSw
                      go_simp
                      try with_reducible rfl
                    try simp only [Act.put, List.setIfInBounds_toArray, List.set_cons_zero, List.set_cons_succ]
                    refine takeN19 (v := ?_) (by kernel_rfl) (by kernel_rfl) (by kernel_rfl) (fun _ _ _ h => h) (by rfl) ?_ (by assumption) ?_
                    rotate_left
                    · intro w hSw
                      try dsimp only at hSw
                      go_simp
                      try with_reducible rfl
                    try simp only [Act.put, List.setIfInBounds_toArray, List.set_cons_zero, List.set_cons_succ]
                    refine takeN20 (v := ?_) (by kernel_rfl) (by kernel_rfl) (by kernel_rfl) (fun _ _ _ h => h) (by rfl) ?_ (by assumption) ?_
                    rotate_left
                    · intro w hSw
                      try dsimp only at hSw
                      go_simp
                      try with_reducible rfl
                    try simp only [Act.put, List.setIfInBounds_toArray, List.set_cons_zero, List.set_cons_succ]
                    refine takeN21 (v := ?_) (by kernel_rfl) (by kernel_rfl) (by kernel_rfl) (fun _ _ _ h => h) (by rfl) ?_ (by assumption) ?_
                    rotate_left
                    · intro w hSw
                      try dsimp only at hSw
                      go_simp
                      try with_reducible rfl
                    try simp only [Act.put, List.setIfInBounds_toArray, List.set_cons_zero, List.set_cons_succ]
                    refine takeN22 (v := ?_) (by kernel_rfl) (by kernel_rfl) (by kernel_rfl) (fun _ _ _ h => h) (by rfl) ?_ (by assumption) ?_
                    rotate_left
                    · intro w hSw
                      try dsimp only at hSw
                      go_simp
                      try with_reducible rfl
                    try simp only [Act.put, List.setIfInBounds_toArray, List.set_cons_zero, List.set_cons_succ]
                    refine takeN23 (v := ?_) (by kernel_rfl) (by kernel_rfl) (by kernel_rfl) (fun _ _ _ h => h) (by rfl) ?_ (by assumption) ?_
                    rotate_left
                    · intro w hSw
                      try dsimp only at hSw
                      go_simp
                      try with_reducible rfl
                    try simp only [Act.put, List.setIfInBounds_toArray, List.set_cons_zero, List.set_cons_succ]
                    refine takeN24 (v := ?_) (by kernel_rfl) (by kernel_rfl) (by kernel_rfl) (fun _ _ _ h => h) (by rfl) ?_ (by assumption) ?_
                    rotate_left
                    · intro w hSw
                      try dsimp only at hSw
                      go_simp
                      try with_reducible rfl
                    try simp only [Act.put, List.setIfInBounds_toArray, List.set_cons_zero, List.set_cons_succ]
                    refine takeN25 (v := ?_) (by kernel_rfl) (by kernel_rfl) (by kernel_rfl) (fun _ _ _ h => h) (by rfl) ?_ (by assumption) ?_
                    rotate_left
                    · intro w hSw
                      try dsimp only at hSw
                      go_simp
                      try with_reducible rfl
                    try simp only [Act.put, List.setIfInBounds_toArray, List.set_cons_zero, List.set_cons_succ]
                    refine takeN26 (v := ?_) (by kernel_rfl) (by kernel_rfl) (by kernel_rfl) (fun _ _ _ h => h) (by rfl) ?_ (by assumption) ?_
                    rotate_left
                    · intro w hSw
                      try dsimp only at hSw
                      go_simp
                      try with_reducible rfl
                    try simp only [Act.put, List.setIfInBounds_toArray, List.set_cons_zero, List.set_cons_succ]
                    refine comeN27 (by kernel_rfl) (by rfl) (fun K hK => ?_)
                    go_simp
                    (go_at_call 17; refine (h.cycle _ (L.length : Int) f _ (EF.out.below hHeld.1 (Nat.le_refl _)) FL.out FK.out ML.out).mono ?_; rintro r w' ⟨x9, rfl, hx9, hb⟩; rw [CY.out] at hx9; obtain ⟨a9, c9, rfl, -, -⟩ := hx9; have hk4 := c4_next lt1 lt1 lt3 lt4 hHeld hb; clear hb)
                    try go_wp2_with fail
                    refine hK.out _ _ ?_ (fun hHeld => ?_)
                    · exact hk4
                    clear hK K
                    try simp only [Act.put, List.setIfInBounds_toArray, List.set_cons_zero, List.set_cons_succ]
                    refine takeN28 (v := ?_) (by kernel_rfl) (by kernel_rfl) (by kernel_rfl) (fun _ _ _ h => h) (by rfl) ?_ (by assumption) ?_
                    rotate_left
                    · intro w hSw
                      try dsimp only at hSw
                      go_simp
                      try with_reducible rfl
                    try simp only [Act.put, List.setIfInBounds_toArray, List.set_cons_zero, List.set_cons_succ]
                    refine takeN29 (v := ?_) (by kernel_rfl) (by kernel_rfl) (by kernel_rfl) (fun _ _ _ h => h) (by rfl) ?_ (by assumption) ?_
                    rotate_left
                    · intro w hSw
                      try dsimp only at hSw
                      go_simp
                      try with_reducible rfl
                    try simp only [Act.put, List.setIfInBounds_toArray, List.set_cons_zero, List.set_cons_succ]
                    refine takeN30 (v := ?_) (by kernel_rfl) (by kernel_rfl) (by kernel_rfl) (fun _ _ _ h => h) (by rfl) ?_ (by assumption) ?_
                    rotate_left
                    · intro w hSw
                      try dsimp only at hSw
                      go_simp
                      try with_reducible rfl
                    try simp only [Act.put, List.setIfInBounds_toArray, List.set_cons_zero, List.set_cons_succ]
                    refine takeN31 (v := ?_) (by kernel_rfl) (by kernel_rfl) (by kernel_rfl) (fun _ _ _ h => h) (by rfl) ?_ (by assumption) ?_
                    rotate_left
                    · intro w hSw
                      try dsimp only at hSw
                      go_simp
                      try with_reducible rfl
                    try simp only [Act.put, List.setIfInBounds_toArray, List.set_cons_zero, List.set_cons_succ]
                    refine wpAnyH_done (by kernel_rfl) ?_ _
                    have hbl := C7.out.trans (BW.out.trans (hk4.1.mono WS.out))
                    go_wp2_with fail
                    go_ret
                    exact ⟨by try rfl, hbl⟩
                | false =>
                  have hne : ¬ ja = jb := fun e0 => absurd (hsame2.1 e0) (by simp)
                  have f1 : ((ja : Int) + 1 == (jb : Int) + 1) = false := beq_eq_false_iff_ne.2 (by omega)
                  have f2 : ((ja : Int) == (jb : Int)) = false := beq_eq_false_iff_ne.2 (by omega)
                  have f3 : (ja == jb) = false := beq_eq_false_iff_ne.2 hne
                  clear hsame2
                  go_wp2_with fail
                  refine wp_region_held_drew (S := fun w' => Below wr.heap.size wr w' ∧ w'.cell? ⟨w4.heap.size, A, none⟩ = some (.int .i64 ((ja : Int) + 1)) ∧ w'.cell? ⟨w4.heap.size, B, none⟩ = some (.int .i64 ((jb : Int) + 1)) ∧ w'.cell? ⟨fg, foff + B, none⟩ = some (.bool false) ∧ w'.cell? ⟨tg, toff + A, none⟩ = some (.bool t)) (by kernel_rfl) ?_ (fun hHeld => ?_)
                  · exact c4_drew ⟨Below.refl _ _, s1, s2, s3, s4⟩
                  refine takeN0 (v := ?_) (by kernel_rfl) (by kernel_rfl) (by kernel_rfl) (fun _ _ _ h => h) (by rfl) ?_ (by assumption) ?_
                  rotate_left
                  · intro w hSw
                    try dsimp only at hSw
                    go_simp
                    try with_reducible rfl
                  try simp only [Act.put, List.setIfInBounds_toArray, List.set_cons_zero, List.set_cons_succ]
                  refine takeN1 (v := ?_) (by kernel_rfl) (by kernel_rfl) (by kernel_rfl) (fun _ _ _ h => h) (by rfl) ?_ (by assumption) ?_
                  rotate_left
                  · intro w hSw
                    try dsimp only at hSw
                    go_simp
                    try with_reducible rfl
                  try simp only [Act.put, List.setIfInBounds_toArray, List.set_cons_zero, List.set_cons_succ]
                  refine takeN2 (v := ?_) (by kernel_rfl) (by kernel_rfl) (by kernel_rfl) (fun _ _ _ h => h) (by rfl) ?_ (by assumption) ?_
                  rotate_left
                  · intro w hSw
                    try dsimp only at hSw
                    go_simp
                    try with_reducible rfl
                  try simp only [Act.put, List.setIfInBounds_toArray, List.set_cons_zero, List.set_cons_succ]
                  refine takeN3 (v := ?_) (by kernel_rfl) (by kernel_rfl) (by kernel_rfl) (fun _ _ _ h => h) (by rfl) ?_ (by assumption) ?_
                  rotate_left
                  · intro w hSw
                    try dsimp only at hSw
                    go_simp
                    try with_reducible rfl
                  try simp only [Act.put, List.setIfInBounds_toArray, List.set_cons_zero, List.set_cons_succ]
                  refine takeN4 (v := ?_) (by kernel_rfl) (by kernel_rfl) (by kernel_rfl) (fun _ _ _ h => h) (by rfl) ?_ (by assumption) ?_
                  rotate_left
                  · intro w hSw
                    try dsimp only at hSw
                    go_simp
                    try with_reducible rfl
                  try simp only [Act.put, List.setIfInBounds_toArray, List.set_cons_zero, List.set_cons_succ]
                  refine takeN5 (v := ?_) (by kernel_rfl) (by kernel_rfl) (by kernel_rfl) (fun _ _ _ h => h) (by rfl) ?_ (by assumption) ?_
                  rotate_left
                  · intro w hSw
                    try dsimp only at hSw
                    go_simp
                    try with_reducible rfl
                  try simp only [Act.put, List.setIfInBounds_toArray, List.set_cons_zero, List.set_cons_succ]
                  refine takeN6 (v := ?_) (by kernel_rfl) (by kernel_rfl) (by kernel_rfl) (fun _ _ _ h => h) (by rfl) ?_ (by assumption) ?_
                  rotate_left
                  · intro w hSw
                    try dsimp only at hSw
                    go_simp
                    try with_reducible rfl
                  try simp only [Act.put, List.setIfInBounds_toArray, List.set_cons_zero, List.set_cons_succ]
                  refine takeN7 (v := ?_) (by kernel_rfl) (by kernel_rfl) (by kernel_rfl) (fun _ _ _ h => h) (by rfl) ?_ (by assumption) ?_
                  rotate_left
                  · intro w hSw
                    try dsimp only at hSw
                    go_simp
                    try with_reducible rfl
                  try simp only [Act.put, List.setIfInBounds_toArray, List.set_cons_zero, List.set_cons_succ]
                  refine takeN8 (v := ?_) (by kernel_rfl) (by kernel_rfl) (by kernel_rfl) (fun _ _ _ h => h) (by rfl) ?_ (by assumption) ?_
                  rotate_left
                  · intro w hSw
                    try dsimp only at hSw
                    go_simp
                    try with_reducible rfl
                  try simp only [Act.put, List.setIfInBounds_toArray, List.set_cons_zero, List.set_cons_succ]
                  refine takeN9 (v := ?_) (by kernel_rfl) (by kernel_rfl) (by kernel_rfl) (fun _ _ _ h => h) (by rfl) ?_ (by assumption) ?_
                  rotate_left
                  · intro w hSw
                    try dsimp only at hSw
                    go_simp
                    try with_reducible rfl
                  try simp only [Act.put, List.setIfInBounds_toArray, List.set_cons_zero, List.set_cons_succ]
                  refine takeN10 (v := ?_) (by kernel_rfl) (by kernel_rfl) (by kernel_rfl) (fun _ _ _ h => h) (by rfl) ?_ (by assumption) ?_
                  rotate_left
                  · intro w hSw
                    try dsimp only at hSw
                    go_simp
                    try with_reducible rfl
                  try simp only [Act.put, List.setIfInBounds_toArray, List.set_cons_zero, List.set_cons_succ]
                  refine takeN11 (v := ?_) (by kernel_rfl) (by kernel_rfl) (by kernel_rfl) (fun _ _ _ h => h) (by rfl) ?_ (by assumption) ?_
                  rotate_left
                  · intro w hSw
                    try dsimp only at hSw
                    go_simp
                    try with_reducible rfl
                  try simp only [Act.put, List.setIfInBounds_toArray, List.set_cons_zero, List.set_cons_succ]
                  refine takeN12 (v := ?_) (by kernel_rfl) (by kernel_rfl) (by kernel_rfl) (fun _ _ _ h => h) (by rfl) ?_ (by assumption) ?_
                  rotate_left
                  · intro w hSw
                    try dsimp only at hSw
                    go_simp
                    try with_reducible rfl
                  try simp only [Act.put, List.setIfInBounds_toArray, List.set_cons_zero, List.set_cons_succ]
                  refine takeN13 (v := ?_) (by kernel_rfl) (by kernel_rfl) (by kernel_rfl) (fun _ _ _ h => h) (by rfl) ?_ (by assumption) ?_
                  rotate_left
                  · intro w hSw
                    try dsimp only at hSw
                    go_simp
                    try with_reducible rfl
                  try simp only [Act.put, List.setIfInBounds_toArray, List.set_cons_zero, List.set_cons_succ]
                  refine takeN14 (v := ?_) (by kernel_rfl) (by kernel_rfl) (by kernel_rfl) (fun _ _ _ h => h) (by rfl) ?_ (by assumption) ?_
                  rotate_left
                  · intro w hSw
                    try dsimp only at hSw
                    go_simp
                    try with_reducible rfl
                  try simp only [Act.put, List.setIfInBounds_toArray, List.set_cons_zero, List.set_cons_succ]
                  refine takeN15 (v := ?_) (by kernel_rfl) (by kernel_rfl) (by kernel_rfl) (fun _ _ _ h => h) (by rfl) ?_ (by assumption) ?_
                  rotate_left
                  · intro w hSw
                    try dsimp only at hSw
                    go_simp
                    try with_reducible rfl
                  try simp only [Act.put, List.setIfInBounds_toArray, List.set_cons_zero, List.set_cons_succ]
                  refine passN16 (by kernel_rfl) (by kernel_rfl) (by kernel_rfl) (fun _ _ _ h => h) (by rfl) (by assumption) ?_
                  try simp only [Act.put, List.setIfInBounds_toArray, List.set_cons_zero, List.set_cons_succ]
                  refine passN17 (by kernel_rfl) (by kernel_rfl) (by kernel_rfl) (fun _ _ _ h => h) (by rfl) (by assumption) ?_
                  try simp only [Act.put, List.setIfInBounds_toArray, List.set_cons_zero, List.set_cons_succ]
                  refine passN18 (by kernel_rfl) (by kernel_rfl) (by kernel_rfl) (fun _ _ _ h => h) (by rfl) (by assumption) ?_
                  try simp only [Act.put, List.setIfInBounds_toArray, List.set_cons_zero, List.set_cons_succ]
                  refine passN19 (by kernel_rfl) (by kernel_rfl) (by kernel_rfl) (fun _ _ _ h => h) (by rfl) (by assumption) ?_
                  try simp only [Act.put, List.setIfInBounds_toArray, List.set_cons_zero, List.set_cons_succ]
                  refine takeN20 (v := ?_) (by kernel_rfl) (by kernel_rfl) (by kernel_rfl) (fun _ _ _ h => h) (by rfl) ?_ (by assumption) ?_
                  rotate_left
                  · intro w hSw
                    try dsimp only at hSw
                    go_simp
                    try with_reducible rfl
                  try simp only [Act.put, List.setIfInBounds_toArray, List.set_cons_zero, List.set_cons_succ]
                  refine takeN21 (v := ?_) (by kernel_rfl) (by kernel_rfl) (by kernel_rfl) (fun _ _ _ h => h) (by rfl) ?_ (by assumption) ?_
                  rotate_left
                  · intro w hSw
                    try dsimp only at hSw
                    go_simp
                    try with_reducible rfl
                  try simp only [Act.put, List.setIfInBounds_toArray, List.set_cons_zero, List.set_cons_succ]
                  refine takeN22 (v := ?_) (by kernel_rfl) (by kernel_rfl) (by kernel_rfl) (fun _ _ _ h => h) (by rfl) ?_ (by assumption) ?_
                  rotate_left
                  · intro w hSw
                    try dsimp only at hSw
                    go_simp
                    try with_reducible rfl
                  try simp only [Act.put, List.setIfInBounds_toArray, List.set_cons_zero, List.set_cons_succ]
                  refine takeN23 (v := ?_) (by kernel_rfl) (by kernel_rfl) (by kernel_rfl) (fun _ _ _ h => h) (by rfl) ?_ (by assumption) ?_
                  rotate_left
                  · intro w hSw
                    try dsimp only at hSw
                    go_simp
                    try with_reducible rfl
                  try simp only [Act.put, List.setIfInBounds_toArray, List.set_cons_zero, List.set_cons_succ]
                  refine takeN24 (v := ?_) (by kernel_rfl) (by kernel_rfl) (by kernel_rfl) (fun _ _ _ h => h) (by rfl) ?_ (by assumption) ?_
                  rotate_left
                  · intro w hSw
                    try dsimp only at hSw
                    go_simp
                    try with_reducible rfl
                  try simp only [Act.put, List.setIfInBounds_toArray, List.set_cons_zero, List.set_cons_succ]
                  refine takeN25 (v := ?_) (by kernel_rfl) (by kernel_rfl) (by kernel_rfl) (fun _ _ _ h => h) (by rfl) ?_ (by assumption) ?_
                  rotate_left
                  · intro w hSw
                    try dsimp only at hSw
                    go_simp
                    try with_reducible rfl
                  try simp only [Act.put, List.setIfInBounds_toArray, List.set_cons_zero, List.set_cons_succ]
                  refine takeN26 (v := ?_) (by kernel_rfl) (by kernel_rfl) (by kernel_rfl) (fun _ _ _ h => h) (by rfl) ?_ (by assumption) ?_
                  rotate_left
                  · intro w hSw
                    try dsimp only at hSw
                    go_simp
                    try with_reducible rfl
                  try simp only [Act.put, List.setIfInBounds_toArray, List.set_cons_zero, List.set_cons_succ]
                  refine comeN27 (by kernel_rfl) (by rfl) (fun K hK => ?_)
                  go_simp
                  (go_at_call 17; refine (h.cycle _ (L.length : Int) f _ (EF.out.below hHeld.1 (Nat.le_refl _)) FL.out FK.out ML.out).mono ?_; rintro r w' ⟨x9, rfl, hx9, hb⟩; rw [CY.out] at hx9; obtain ⟨a9, c9, rfl, -, -⟩ := hx9; have hk4 := c4_next lt1 lt1 lt3 lt4 hHeld hb; clear hb)
                  try go_wp2_with fail
                  refine hK.out _ _ ?_ (fun hHeld => ?_)
                  · exact hk4
                  clear hK K
                  try simp only [Act.put, List.setIfInBounds_toArray, List.set_cons_zero, List.set_cons_succ]
                  refine takeN28 (v := ?_) (by kernel_rfl) (by kernel_rfl) (by kernel_rfl) (fun _ _ _ h => h) (by rfl) ?_ (by assumption) ?_
                  rotate_left
                  · intro w hSw
                    try dsimp only at hSw
                    go_simp
                    try with_reducible rfl
                  try simp only [Act.put, List.setIfInBounds_toArray, List.set_cons_zero, List.set_cons_succ]
                  refine takeN29 (v := ?_) (by kernel_rfl) (by kernel_rfl) (by kernel_rfl) (fun _ _ _ h => h) (by rfl) ?_ (by assumption) ?_
                  rotate_left
                  · intro w hSw
                    try dsimp only at hSw
                    go_simp
                    try with_reducible rfl
                  try simp only [Act.put, List.setIfInBounds_toArray, List.set_cons_zero, List.set_cons_succ]
                  refine takeN30 (v := ?_) (by kernel_rfl) (by kernel_rfl) (by kernel_rfl) (fun _ _ _ h => h) (by rfl) ?_ (by assumption) ?_
                  rotate_left
                  · intro w hSw
                    try dsimp only at hSw
                    go_simp
                    try with_reducible rfl
                  try simp only [Act.put, List.setIfInBounds_toArray, List.set_cons_zero, List.set_cons_succ]
                  refine takeN31 (v := ?_) (by kernel_rfl) (by kernel_rfl) (by kernel_rfl) (fun _ _ _ h => h) (by rfl) ?_ (by assumption) ?_
                  rotate_left
                  · intro w hSw
                    try dsimp only at hSw
                    go_simp
                    try with_reducible rfl
                  try simp only [Act.put, List.setIfInBounds_toArray, List.set_cons_zero, List.set_cons_succ]
                  refine wpAnyH_done (by kernel_rfl) ?_ _
                  have hbl := C7.out.trans (BW.out.trans (hk4.1.mono WS.out))
                  go_wp2_with fail
                  go_ret
                  exact ⟨by try rfl, hbl⟩

end Go.Proofs.Ytndcbhgdlaemaaa
