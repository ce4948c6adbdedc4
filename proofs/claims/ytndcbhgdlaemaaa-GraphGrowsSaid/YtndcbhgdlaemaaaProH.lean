/-
  The program's Order.
-/
import Derived.Test.YtndcbhgdlaemaaaProG
namespace Go.Proofs.Ytndcbhgdlaemaaa
open Go.RowKit Gr

theorem order_pair (n : Int) (e : E) : (∀ l, order n e = some l → ordL n e = l ∧ ordB n e = true) ∧ (order n e = none → ordL n e = [] ∧ ordB n e = false) := by
  unfold ordL ordB
  exact ⟨fun l h => by rw [h]; exact ⟨rfl, rfl⟩, fun h => by rw [h]; exact ⟨rfl, rfl⟩⟩
theorem order_wrong {n : Int} {e : E} (h : rightB n e = false) : order n e = none := by unfold order; rw [if_neg (by rw [h]; exact Bool.false_ne_true)]
/-- the edges to each node, counted -/
structure OC (e : E) (n k : Nat) (w wr : World) : Prop where
  row : Row wr w.heap.size (stp n (inn (e.take k)))
  below : Below w.heap.size w wr
def CRel (e : E) (n : Nat) (w : World) (i : Value) (wr : World) : Prop := ∃ k : Nat, i = .int .i64 (k : Int) ∧ k ≤ e.length ∧ OC e n k w wr
/-- the order under way -/
structure PO (e : E) (n g2 : Nat) (l : List Int) (w wr : World) : Prop where
  ok : Ok (n : Int) e l
  ord : ord (n : Int) e n [] = ord (n : Int) e (n - l.length) l
  row : Row wr w.heap.size (stp n (opn e l))
  own : wr.ownsRow (w.heap.size + 1) 3 1 (.slice (some ⟨g2, 0, none⟩) l.length n) l.length (ints l)
  below : Below w.heap.size w wr
def ORel (e : E) (n : Nat) (w : World) (v i : Value) (wr : World) : Prop := ∃ (g2 k : Nat) (l : List Int), i = .int .i64 (k : Int) ∧ k ≤ n ∧ l.length = k ∧ v = .slice (some ⟨g2, 0, none⟩) k n ∧ PO e n g2 l w wr
structure OD (e : E) (n : Nat) (l : List Int) (v : Int) (j g : Nat) (wb wr : World) : Prop where
  row : Row wr g (stp n (dec e l v j))
  keep : Keep g (g + 1) wb wr
def DRel2 (e : E) (n : Nat) (l : List Int) (v : Int) (g : Nat) (wb : World) (i : Value) (wr : World) : Prop := ∃ j : Nat, i = .int .i64 (j : Int) ∧ j ≤ (adj e v).length ∧ OD e n l v j g wb wr

set_option maxHeartbeats 12800000 in
set_option maxRecDepth 100000 in
theorem order_x (v : Value) (n : Int) (e : E) (w : World) (hat : EAt w v e) (hl : e.length ≤ 1099511627776) :
    Calls Try.prog 11 #[.int .i64 n, v] w fun r w' => ∃ x, r = .returned (.tuple #[x, .bool (ordB n e)]) ∧ SAt w' x (ints (ordL n e)) ∧ Below w.heap.size w w' := by
  have HAT := Lib.hid hat
  obtain ⟨ad, cap, rfl, -, -⟩ := id hat
  have HR := Lib.hid (isRight_x _ n e w hat (by omega))
  obtain ⟨rb, hrb⟩ : ∃ rb, rightB n e = rb := ⟨_, rfl⟩
  have RB := Lib.hid hrb
  cases rb with
  | false =>
    have hv := Lib.hid ((order_pair n e).2 (order_wrong hrb))
    clear hrb hat
    rw [hv.out.1, hv.out.2]
    go_enter Try.func11, Try.ntmps11
    go_wp2_with fail
    refine HR.out.mono ?_
    rintro r w1 ⟨rfl, b1⟩
    rw [RB.out]
    have B1 := Lib.hid b1
    clear b1
    go_wp2_with fail
    go_ret2
    exact ⟨_, rfl, SAt.nil _, B1.out⟩
  | true =>
    obtain ⟨⟨n0, n300⟩, hel, hn⟩ := right_iff.1 hrb
    obtain ⟨N, rfl⟩ := Int.eq_ofNat_of_zero_le n0
    have N300 : N ≤ 300 := by omega
    have HN := Lib.hid hn
    obtain ⟨x0, hx0⟩ : ∃ x, order (N : Int) e = x := ⟨_, rfl⟩
    have HV : Hid (ord (N : Int) e N [] = order (N : Int) e) := by
      show _ = _
      unfold order
      rw [if_pos hrb]
      simp
    obtain ⟨rj, hj, hy0, hy1, hy2⟩ := info_parts infoI
    have Hj := Lib.hid hj
    have Hy0 := Lib.hid hy0
    have Hy1 := Lib.hid hy1
    have Hy2 := Lib.hid hy2
    obtain ⟨vB, hvB⟩ : ∃ b, ordB (N : Int) e = b := ⟨_, rfl⟩
    have VB := Lib.hid hvB
    rw [hvB]
    clear hrb hat hn hj hy0 hy1 hy2 hx0 hvB
    go_enter Try.func11, Try.ntmps11
    go_wp2_with fail
    refine HR.out.mono ?_
    rintro r w1 ⟨rfl, b1⟩
    rw [RB.out]
    have B1 := Lib.hid b1
    clear b1
    go_wp2_with fail
    refine (ahead_x _ N e w1 (HAT.out.below B1.out (Nat.le_refl _)) hel N300 HN.out).mono ?_
    rintro r w2 ⟨na, nc, rfl, h2, b2⟩
    have L2 := Lib.hid h2
    have B2 := Lib.hid (chain B1.out b2)
    have E2 := Lib.hid ((HAT.out.below B1.out (Nat.le_refl _)).below b2 (Nat.le_refl _))
    clear h2 b2
    go_wp2_with (at_make; refine wpList_make_full _ rfl (.tmp 21) (.tmp 21) 25 rfl w2.heap.size 3 rj (.int .i64 0) 1 Try.underlying25 Hj.out Hy0.out Hy1.out .i64 .i64 (N : Int) (N : Int) N rfl rfl rfl rfl ?f1 ?f2 ?f3 ?_)
    case f1 => rw [Hy2.out]; omega
    case f2 => unfold maxLen; omega
    case f3 => exact Nat.le_refl _
    intro w3 hown3 hgrow3
    have C3 : Hid (OC e N 0 w2 w3) := by
      rw [made_stp1] at hown3
      exact ⟨Row.own hown3 (stp_len _ _).symm, grown_below hgrow3⟩
    clear hown3 hgrow3
    go_wp2_with fail
    go_loopw [25] (fun i wr => CRel e N w2 i wr) (fun i _ => e.length - (intOf i).toNat)
    case atStart => exact ⟨0, rfl, Nat.zero_le _, C3.out⟩
    case round =>
      clear C3
      obtain ⟨k, rfl, hk, hB⟩ := hrel
      have HB := Lib.hid hB
      have k0 : (0 : Int) ≤ (k : Int) := by omega
      clear hB
      by_cases c : k < e.length
      case pos =>
        obtain ⟨p, hp⟩ : ∃ p, e[k]? = some p := ⟨e[k], List.getElem?_eq_getElem c⟩
        have pn := HN.out p (List.mem_of_getElem? hp)
        obtain ⟨p1, p2⟩ := p
        simp only at pn
        obtain ⟨p2, rfl⟩ := Int.eq_ofNat_of_zero_le pn.2.1
        obtain ⟨a', cap', e1, -, hc⟩ := E2.out.below HB.out.below (Nat.le_refl _)
        cases e1
        obtain ⟨b, off, rfl, hb, q0, q1⟩ := hc k _ hp
        simp only at q0 q1
        have c0 : (k : Int) < (e.length : Int) := by omega
        have HP := Lib.hid hp
        have pN : p2 < N := by omega
        have u0 : (0 : Int) ≤ (p2 : Int) := by omega
        have u1 : (p2 : Int) < (N : Int) := by omega
        obtain ⟨y, hy⟩ : ∃ y, inn (e.take k) (p2 : Int) = y := ⟨_, rfl⟩
        have yb := inn_bd (e.take k) (p2 : Int)
        rw [hy, List.length_take] at yb
        have y0 : 0 ≤ y := yb.1
        have y1 : y ≤ 2000 := by omega
        have r1 := HB.out.row.c p2 _ (stp_get pN)
        rw [hy] at r1
        have r2 := HB.out.row.fz p2 (by rw [stp_len]; exact pN)
        have l1 := HB.out.row.lt
        have HY := Lib.hid hy
        have C5 : Hid (OC e N (k + 1) w2 ((wr.setCell ⟨w2.heap.size, p2, none⟩ (.int .i64 (y + 1))).alloc (.cells #[.int .i64 p1, .int .i64 (p2 : Int)] 40))) := by
          have hb2 := HB.out.below.setCell (p := ⟨w2.heap.size, p2, none⟩) (Nat.le_refl _) (.int .i64 (y + 1))
          refine ⟨Row.next ?_ (Below.new1 _), hb2.alloc hb2.size _⟩
          have h := HB.out.row.set p2 (.int .i64 (y + 1)) (by rw [stp_len]; exact pN)
          rw [stp_set] at h
          rw [stp_congr (f' := upd (inn (e.take k)) (p2 : Int) (y + 1)) (fun a => ?_)]
          · exact h
          · rw [inn_next HP.out]
            unfold upd
            by_cases q : a = (p2 : Int)
            · rw [if_pos q, if_pos q, q, HY.out]
            · rw [if_neg q, if_neg q]
        clear hp pn hc hy yb
        go_wp2_with fail
        go_roundw
        case rel => exact ⟨k + 1, by congr 1, by omega, C5.out⟩
        case measure => simp [intOf]; omega
      case neg =>
        have c0 : ¬ (k : Int) < (e.length : Int) := by omega
        have R4 : Hid (Row wr w2.heap.size (stp N (opn e []))) := by
          have h := HB.out.row
          rw [List.take_of_length_le (by omega), stp_congr (fun a => inn_opn e a)] at h
          exact h
        have B4 := Lib.hid HB.out.below
        clear HB
        go_wp2_with (at_make; refine wpList_make_own _ rfl (.const (.int .i64 0)) (.tmp 37) 25 rfl (w2.heap.size + 1) 3 rj (.int .i64 0) 1 Try.underlying25 Hj.out Hy0.out Hy1.out .i64 .i64 (N : Int) N rfl rfl rfl ?f1 ?f2 ?f3 ?_)
        case f1 => rw [Hy2.out]; omega
        case f2 => unfold maxLen; omega
        case f3 => exact R4.out.lt
        intro w5 hown5 hgrow5
        have O5 : Hid (PO e N wr.heap.size [] w2 w5) := ⟨Ok.nil _ _, rfl, R4.out.next (grown_below hgrow5), hown5, B4.out.grown hgrow5 B4.out.size (fun k hk => by cases hk)⟩
        clear hown5 hgrow5 R4 B4
        go_wp2_with fail
        go_loopw [10, 40] (fun v i wr1 => ORel e N w2 v i wr1) (fun _ i _ => N - (intOf i).toNat)
        case atStart => exact ⟨_, 0, [], rfl, Nat.zero_le _, rfl, rfl, O5.out⟩
        case round =>
          clear O5
          obtain ⟨g2, k2, l, rfl, hk2, hlen, rfl, hO⟩ := hrel
          subst hlen
          have HO := Lib.hid hO
          have m0 : (0 : Int) ≤ (l.length : Int) := by omega
          clear hO c c0 hk k0
          by_cases c : l.length < N
          case neg =>
            have c0 : ¬ (l.length : Int) < (N : Int) := by omega
            have h1 : order (N : Int) e = some l := by
              have h := HO.out.ord
              rw [HV.out, show N - l.length = 0 by omega] at h
              exact h
            have h2 := Lib.hid ((order_pair (N : Int) e).1 l h1)
            obtain rfl : vB = true := by rw [← VB.out]; exact h2.out.2
            clear h1
            go_wp2_with fail
            go_ret2
            exact ⟨_, rfl, by rw [h2.out.1]; exact SAt.own HO.out.own (by simp), B2.out.trans (HO.out.below.mono B2.out.size)⟩
          case pos =>
            have c0 : (l.length : Int) < (N : Int) := by omega
            go_wp2_with fail
            refine (index_x w2.heap.size N N ((nodes N).map (opn e l)) wr HO.out.row (by rw [List.length_map, nodes_len]; simp) (by rw [List.length_map, nodes_len]; simp; omega)).mono ?_
            rintro r w6 ⟨rfl, hcase⟩
            rcases hcase with ⟨i, rfl, hi, hmin⟩ | ⟨rfl, hnone⟩
            · have hget : ∀ j : Nat, j < N → ((nodes N).map (opn e l))[j]? = some (opn e l (j : Int)) := fun j hj => by rw [List.getElem?_map, nodes_get (by simpa using hj)]; rfl
              have iN : i < N := by
                have h := (List.getElem?_eq_some_iff.1 hi).1
                rw [List.length_map, nodes_len] at h
                simpa using h
              have hp : Hid (pickO (N : Int) e l = some (i : Int)) := by
                refine pick_idx iN ?_ (fun j hj => hmin j _ hj (hget j (by omega)))
                rw [hget i iN] at hi
                simpa using hi
              have OK1 := Lib.hid (HO.out.ok.next hp.out)
              have NL : Hid ((i : Int) ∉ l) := (free_iff.1 (pick_some hp.out).2.1).1
              have OR1 : Hid (ord (N : Int) e N [] = ord (N : Int) e (N - (l ++ [(i : Int)]).length) (l ++ [(i : Int)])) := by
                show _ = _
                rw [HO.out.ord, List.length_append, List.length_singleton, show N - l.length = (N - (l.length + 1)) + 1 by omega]
                show (match pickO (N : Int) e l with | none => none | some a => ord (N : Int) e (N - (l.length + 1)) (l ++ [a])) = _
                rw [hp.out]
              have r1 := HO.out.row.c i _ (stp_get iN)
              have r2 := HO.out.row.fz i (by rw [stp_len]; exact iN)
              have l1 := HO.out.row.lt
              have i0 : (0 : Int) ≤ (i : Int) := by omega
              have i1 : (i : Int) < (N : Int) := by omega
              have D0 : Hid (OD e N l (i : Int) 0 w2.heap.size wr (wr.setCell ⟨w2.heap.size, i, none⟩ (.int .i64 (-1)))) := by
                refine ⟨?_, Keep.set _ _ _ (Nat.le_refl _) (Nat.lt_succ_self _)⟩
                have h := HO.out.row.set i (.int .i64 (-1)) (by rw [stp_len]; exact iN)
                rw [stp_set] at h
                rw [stp_congr (fun a => dec_zero a)]
                exact h
              obtain ⟨x, hx, a4, c4, b4, o4, e4, rfl, t1, tr, t2⟩ := (L2.out.below HO.out.below).el (adjs_get (es := fl false e) iN)
              simp only [Value.slice.injEq] at e4
              obtain ⟨rfl, -, rfl⟩ := e4
              obtain ⟨xa, xc, rfl, -, -⟩ := id hx
              have HX : Hid (SIn w1.heap.size w2.heap.size wr (.slice xa (adj e (i : Int)).length xc) (ints (adj e (i : Int)))) := by rw [List.length_map] at hx; exact hx
              have t3 : (wr.setCell ⟨w2.heap.size, i, none⟩ (.int .i64 (-1))).cell? ⟨b4, o4 + i, none⟩ = some (.slice xa (adj e (i : Int)).length xc) := by
                rw [D0.out.keep.cell _ t1 (.inl tr.2), t2, List.length_map]
                rfl
              have al : (adj e (i : Int)).length ≤ 2000 := Nat.le_trans (adj_len _ _) hel
              have bn : b4 < wr.heap.size := t1
              clear hi hmin hget hx t1 t2 tr
              go_wp2_with fail
              go_loopw [54] (fun v wr1 => DRel2 e N l (i : Int) w2.heap.size wr v wr1) (fun v _ => (adj e (i : Int)).length - (intOf v).toNat)
              case atStart => exact ⟨0, rfl, Nat.zero_le _, D0.out⟩
              case round =>
                clear D0 t3 bn r1 r2 l1
                obtain ⟨j, rfl, hj, hD⟩ := hrel
                have HD := Lib.hid hD
                have j0 : (0 : Int) ≤ (j : Int) := by omega
                clear hD
                by_cases d : j < (adj e (i : Int)).length
                case pos =>
                  have d0 : (j : Int) < ((adj e (i : Int)).length : Int) := by omega
                  obtain ⟨x', hx'⟩ : ∃ x, (adj e (i : Int))[j]? = some x := ⟨_, List.getElem?_eq_getElem d⟩
                  have xe := mem_adj.1 (List.mem_of_getElem? hx')
                  have xn := (HN.out _ xe).2
                  have xi : x' ≠ (i : Int) := fun h => next_out OK1.out xe (by simp [h])
                  simp only at xn
                  obtain ⟨x, rfl⟩ := Int.eq_ofNat_of_zero_le xn.1
                  have xN : x < N := by omega
                  obtain ⟨xa', xc', e1, -, hxc⟩ := HX.out.keep HD.out.keep (.inl (Nat.le_refl _))
                  simp only [Value.slice.injEq] at e1
                  obtain ⟨rfl, -, rfl⟩ := e1
                  obtain ⟨xb, xo, rfl, -, t1, t2⟩ := hxc j _ (ints_at hx')
                  obtain ⟨y, hy⟩ : ∃ y, dec e l (i : Int) j (x : Int) = y := ⟨_, rfl⟩
                  have yb := dec_bd e l (i : Int) j (x : Int)
                  rw [hy] at yb
                  have y0 : -2001 ≤ y := by omega
                  have y1 : y ≤ 2000 := by omega
                  have r1 := HD.out.row.c x _ (stp_get xN)
                  rw [hy] at r1
                  have r2 := HD.out.row.fz x (by rw [stp_len]; exact xN)
                  have l1 := HD.out.row.lt
                  have x0 : (0 : Int) ≤ (x : Int) := by omega
                  have x1 : (x : Int) < (N : Int) := by omega
                  have HXE := Lib.hid hx'
                  have HXI := Lib.hid xi
                  have HY := Lib.hid hy
                  have HK2 : Hid (Keep w2.heap.size (w2.heap.size + 1) wr (wr.setCell ⟨w2.heap.size, x, none⟩ (.int .i64 (y - 1)))) := Keep.set _ _ _ (Nat.le_refl _) (Nat.lt_succ_self _)
                  have RW : Hid (Row (wr.setCell ⟨w2.heap.size, x, none⟩ (.int .i64 (y - 1))) w2.heap.size (stp N (dec e l (i : Int) (j + 1)))) := by
                    have h := HD.out.row.set x (.int .i64 (y - 1)) (by rw [stp_len]; exact xN)
                    rw [stp_set] at h
                    rw [stp_congr (f' := upd (dec e l (i : Int) j) (x : Int) (y - 1)) (fun a => ?_)]
                    · exact h
                    · rw [dec_next HXE.out HXI.out]
                      unfold upd
                      by_cases q : a = (x : Int)
                      · rw [if_pos q, if_pos q, q, HY.out]
                      · rw [if_neg q, if_neg q]
                  clear hx' xe xn xi hxc hy yb
                  go_wp2_with fail
                  go_roundw
                  case rel => exact ⟨j + 1, by congr 1, by omega, RW.out, HD.out.keep.trans HK2.out⟩
                  case measure => simp [intOf]; omega
                case neg =>
                  have d0 : ¬ (j : Int) < ((adj e (i : Int)).length : Int) := by omega
                  have ll : l.length + 1 ≤ N := by omega
                  have OWN := Lib.hid (own_keep HO.out.own HD.out.keep (Nat.le_refl _))
                  have RW : Hid (Row wr w2.heap.size (stp N (opn e (l ++ [(i : Int)])))) := by
                    have h := HD.out.row
                    rw [stp_congr (fun a => dec_all NL.out OK1.out (by omega) a)] at h
                    exact h
                  have BW := Lib.hid (HO.out.below.trans (HD.out.keep.below (Nat.le_refl _) HO.out.below.size))
                  clear HO HD HX
                  go_wp2_with (at_builtin; refine wpList_append_fits _ rfl (.tmp 65) (.tmp 67) 25 rfl (w2.heap.size + 1) 3 rj 1 Try.underlying25 Hj.out Hy1.out g2 l.length N (ints l) rfl (OWN.out.alloc _) ⟨wr.heap.size, 0, none⟩ 1 1 [.int .i64 (i : Int)] rfl rfl ?f1 ?f2 ?f3 ?_)
                  case f2 => rfl
                  intro w7 hown7 hgrow7
                  have lt2 := OWN.out.lt g2 rfl
                  have O7 : Hid (PO e N g2 (l ++ [(i : Int)]) w2 w7) := by
                    refine ⟨OK1.out, OR1.out, ?_, ?_, ?_⟩
                    · exact (RW.out.next (Below.new1 _)).keep (lo := g2) (hi := g2 + 1) (Keep.grown hgrow7 (fun k e => by injection e with e; omega)) (by omega)
                    · rw [List.length_append, ints, List.map_append]
                      exact hown7
                    · exact (BW.out.alloc BW.out.size _).grown hgrow7 (by have := BW.out.size; simp; omega) (fun k e => by injection e with e; omega)
                  clear hown7 hgrow7
                  go_wp2_with fail
                  go_roundw
                  case rel => exact ⟨g2, l.length + 1, l ++ [(i : Int)], by congr 1, by omega, by simp, rfl, O7.out⟩
                  case measure => simp [intOf]; omega
            · have hp : pickO (N : Int) e l = none := pick_not (fun i hi => hnone i _ (by rw [List.getElem?_map, nodes_get (by simpa using hi)]; rfl))
              have h1 : order (N : Int) e = none := by
                have h := HO.out.ord
                rw [HV.out, show N - l.length = (N - (l.length + 1)) + 1 by omega] at h
                rw [h]
                show (match pickO (N : Int) e l with | none => none | some a => ord (N : Int) e (N - (l.length + 1)) (l ++ [a])) = _
                rw [hp]
              have h2 := Lib.hid ((order_pair (N : Int) e).2 h1)
              obtain rfl : vB = false := by rw [← VB.out]; exact h2.out.2
              clear h1 hp hnone
              go_wp2_with fail
              go_ret2
              exact ⟨_, rfl, by rw [h2.out.1]; exact SAt.nil _, B2.out.trans (HO.out.below.mono B2.out.size)⟩

end Go.Proofs.Ytndcbhgdlaemaaa
