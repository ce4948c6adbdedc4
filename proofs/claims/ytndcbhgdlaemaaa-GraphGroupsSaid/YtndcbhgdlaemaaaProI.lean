/-
  The program's shortestThrough.
-/
import Derived.Test.YtndcbhgdlaemaaaProH
namespace Go.Proofs.Ytndcbhgdlaemaaa
open Go.RowKit Gr

theorem last_app (c : List Int) (x : Int) : lastOf (c ++ [x]) = x := by unfold lastOf; simp
/-- the cycle under way -/
structure CyS (e : E) (f : Int → Int) (v : Int) (M m : Nat) (z : Int) (c : List Int) (vc : Value) (b12 : Nat) (w2 wr : World) : Prop where
  zm : z = (m : Int) + 1
  own : wr.ownsRow w2.heap.size 3 1 vc c.length (ints c)
  eq : c ++ tl e f m (lastOf c) = v :: tl e f M v
  ne : c ≠ []
  ex : ∃ y, (lastOf c, y) ∈ e ∧ f y = (m : Int) + 1
  len : c.length + m = M + 1
  cell : wr.cell? ⟨b12, 0, none⟩ = some (.int .i64 z)
  bl : w2.heap.size ≤ b12 ∧ b12 < wr.heap.size
  far : vc.ownBlock ≠ some b12
  below : Below w2.heap.size w2 wr
theorem CyS.next {e : E} {f : Int → Int} {v z : Int} {M m b12 : Nat} {c : List Int} {vc : Value} {w2 wr W : World} (h : CyS e f v M m z c vc b12 w2 wr) (hb : Below wr.heap.size wr W) : CyS e f v M m z c vc b12 w2 W := by
  refine ⟨h.zm, own_below h.own hb, h.eq, h.ne, h.ex, h.len, ?_, ⟨h.bl.1, Nat.lt_of_lt_of_le h.bl.2 hb.size⟩, h.far, chain h.below hb⟩
  rw [hb.cell (p := ⟨b12, 0, none⟩) h.bl.2]
  exact h.cell
/-- the node that is taken next -/
theorem CyS.pick {e : E} {n : Nat} {f : Int → Int} {v z : Int} {M m b12 : Nat} {c : List Int} {vc : Value} {w2 wr : World} (h : CyS e f v M (m + 1) z c vc b12 w2 wr) (hd : Dist (fl true e) n v f) :
    ∃ x, (adj e (lastOf c)).find? (fun y => decide (f y = z)) = some x ∧ (lastOf c, x) ∈ e ∧ (c ++ [x]) ++ tl e f m (lastOf (c ++ [x])) = v :: tl e f M v ∧ ∃ y, (lastOf (c ++ [x]), y) ∈ e ∧ f y = (m : Int) + 1 := by
  have hz := h.zm
  have hex : ∃ y, (lastOf c, y) ∈ e ∧ f y = (m : Int) + 2 := by
    obtain ⟨y, h1, h2⟩ := h.ex
    exact ⟨y, h1, by omega⟩
  obtain ⟨h1, h2, -, h4⟩ := pick_spec hex
  have hz2 : z = (m : Int) + 2 := by omega
  refine ⟨Gr.pick e f (lastOf c) ((m : Int) + 2), by rw [hz2]; exact h4, h1, ?_, ?_⟩
  · rw [last_app, List.append_assoc]
    exact h.eq
  · rw [last_app]
    have hne : Gr.pick e f (lastOf c) ((m : Int) + 2) ≠ v := fun e1 => by rw [e1, hd.s0] at h2; omega
    obtain ⟨u, hu, hm, h5⟩ := hd.of _ (by omega) hne
    exact ⟨u, mem_fl.1 hm, by omega⟩
def MRel (f : Int → Int) (l : List Int) (w : World) (len i : Value) (wr : World) : Prop := ∃ k : Nat, i = .int .i64 (k : Int) ∧ k ≤ l.length ∧ len = .int .i64 (mins f (l.take k) 0) ∧ w = wr
def CRel2 (e : E) (f : Int → Int) (v : Int) (M : Nat) (w2 : World) (vc vl : Value) (wr : World) : Prop := ∃ (m : Nat) (z : Int) (c : List Int) (ca : Option Addr) (cc b12 : Nat), vc = .slice ca c.length cc ∧ vl = .pointer (some ⟨b12, 0, none⟩) ∧ CyS e f v M m z c (.slice ca c.length cc) b12 w2 wr
theorem mins_next {f : Int → Int} {l : List Int} {k : Nat} {x : Int} (h : l[k]? = some x) : mins f (l.take (k + 1)) 0 = if 0 < f x ∧ (mins f (l.take k) 0 = 0 ∨ f x < mins f (l.take k) 0) then f x else mins f (l.take k) 0 := by
  rw [List.take_add_one, h, mins_app]
  rfl
/-- what shortestThrough answers -/
structure ThS (e : E) (v : Int) (lo hi gp gs gq n : Nat) (near : Value) (w : World) (l : List Int) (x : Value) (w' : World) : Prop where
  thr : Thr e v l
  len : l.length ≤ 1000
  at_ : SIn w.heap.size w'.heap.size w' x (ints l)
  nil : l = [] → x = .slice none 0 0
  sr : ∃ f q, Sr lo hi gp gs gq n near w' f q
  keep : Keep lo hi w w'

set_option maxHeartbeats 12800000 in
set_option maxRecDepth 100000 in
theorem through_x {lo hi gp gs gq n nlo nhi blo bhi : Nat} {near : Value} {e : E} {w : World} {f : Int → Int} {q : List Int} {nv : Value} (h : Sr lo hi gp gs gq n near w f q) (hL : LIn blo bhi w near ((nodes n).map (adj (fl true e)))) (ho : bhi ≤ lo ∨ hi ≤ blo)
    (hN : LIn nlo nhi w nv ((nodes n).map (adj (fl false e)))) (ho2 : nhi ≤ lo ∨ hi ≤ nlo)
    (hn : ∀ p ∈ e, (0 ≤ p.1 ∧ p.1 < (n : Int)) ∧ 0 ≤ p.2 ∧ p.2 < (n : Int)) (n300 : n ≤ 300) (hel : e.length ≤ 2000) {v : Nat} (hv : v < n) :
    Calls Try.prog 34 #[.int .i64 (v : Int), nv, .pointer (some ⟨gp, 0, none⟩)] w fun r w' => ∃ l x, r = .returned x ∧ ThS e (v : Int) lo hi gp gs gq n near w l x w' := by
  obtain ⟨nb, noff, nc, rfl⟩ := hN.form (adjs_get hv)
  rw [adjs_len] at hN ⊢
  have HN := Lib.hid hn
  have HO2 := Lib.hid ho2
  have S1 := Lib.hid (h.below (Below.new1 (.cells #[.pointer (some ⟨gp, 0, none⟩)] 46)))
  have L1 := Lib.hid (hL.below (Below.new1 (.cells #[.pointer (some ⟨gp, 0, none⟩)] 46)))
  have N1 := Lib.hid (hN.below (Below.new1 (.cells #[.pointer (some ⟨gp, 0, none⟩)] 46)))
  have HI := Lib.hid h.hi1
  obtain ⟨rj, hj, hy0, hy1, hy2⟩ := info_parts infoI
  have Hj := Lib.hid hj
  have Hy0 := Lib.hid hy0
  have Hy1 := Lib.hid hy1
  have Hy2 := Lib.hid hy2
  have v0 : (0 : Int) ≤ (v : Int) := by omega
  have v1 : (v : Int) < (n : Int) := by omega
  clear h hL hN hn ho2 hj hy0 hy1 hy2
  go_enter Try.func34, Try.ntmps34
  go_wp2_with fail
  refine (from_x S1.out L1.out ho (fl_node HN.out) n300 (by rw [fl_len]; exact hel) hv).mono ?_
  rintro r w2 ⟨rfl, f2, q2, h2, d2, k2⟩
  have S2 := Lib.hid h2
  have D2 := Lib.hid d2
  have N2 := Lib.hid (N1.out.keep k2 HO2.out)
  have K2 : Hid (Keep lo hi w w2) := (Keep.of (Below.new1 _) _ _).trans k2
  have b5 : w2.cell? ⟨w.heap.size, 0, none⟩ = some (.pointer (some ⟨gp, 0, none⟩)) := by
    rw [k2.cell _ (by simp) (.inr HI.out), World.cell?_alloc_new]
    rfl
  have l5 : w.heap.size < w2.heap.size := Nat.lt_of_lt_of_le (by simp) k2.size
  clear h2 d2 k2 S1 L1 N1
  obtain ⟨x, hx, t1, t2⟩ := N2.out.get (adjs_get (es := fl false e) hv)
  obtain ⟨xa, xc, rfl, -, -⟩ := id hx
  rw [List.length_map] at t2 hx
  obtain ⟨l, hl⟩ : ∃ l, adj e (v : Int) = l := ⟨_, rfl⟩
  have t3 : w2.cell? ⟨nb, noff + v, none⟩ = some (.slice xa l.length xc) := by rw [← hl]; exact t2
  have HX : Hid (SIn nlo nhi w2 (.slice xa l.length xc) (ints l)) := by show SIn _ _ _ _ _; rw [← hl]; exact hx
  have HL := Lib.hid hl
  have ll : l.length ≤ 2000 := by rw [← hl]; exact Nat.le_trans (adj_len _ _) hel
  clear hx t2 hl
  go_wp2_with fail
  go_loopw [7, 23] (fun len i wr => MRel f2 l w2 len i wr) (fun _ i _ => l.length - (intOf i).toNat)
  case atStart => exact ⟨0, rfl, Nat.zero_le _, rfl, rfl⟩
  case round =>
    obtain ⟨k, rfl, hk, rfl, rfl⟩ := hrel
    have k0 : (0 : Int) ≤ (k : Int) := by omega
    obtain ⟨m0, hm0⟩ : ∃ m, mins f2 (l.take k) 0 = m := ⟨_, rfl⟩
    have HM0 := Lib.hid hm0
    rw [hm0]
    have mb : 0 ≤ m0 := by rw [← hm0]; exact (mins_spec f2 D2.out.nn _ 0 (Int.le_refl _)).1
    clear hm0
    by_cases c : k < l.length
    case pos =>
      have c0 : (k : Int) < (l.length : Int) := by omega
      obtain ⟨x', hx'⟩ : ∃ x, l[k]? = some x := ⟨_, List.getElem?_eq_getElem c⟩
      have xe : ((v : Int), x') ∈ e := by
        have h1 := List.mem_of_getElem? hx'
        rw [← HL.out] at h1
        exact mem_adj.1 h1
      have xn := (HN.out _ xe).2
      simp only at xn
      obtain ⟨x, rfl⟩ := Int.eq_ofNat_of_zero_le xn.1
      have xN : x < n := by omega
      obtain ⟨xa', xc', e1, -, hxc⟩ := HX.out
      simp only [List.length_map, Value.slice.injEq] at e1
      obtain ⟨rfl, -, rfl⟩ := e1
      obtain ⟨xb, xo, rfl, -, t4, t5⟩ := hxc k _ (ints_at hx')
      have c1 := S2.out.c1
      have l1 : gp < w2.heap.size := Nat.lt_of_lt_of_le S2.out.p1.2 S2.out.hi1
      have l2 : gs < w2.heap.size := S2.out.row.lt
      have x0 : (0 : Int) ≤ (x : Int) := by omega
      have x1 : (x : Int) < (n : Int) := by omega
      obtain ⟨y, hy⟩ : ∃ y, f2 (x : Int) = y := ⟨_, rfl⟩
      have r1 : w2.cell? ⟨gs, x, none⟩ = some (.int .i64 y) := by rw [← hy]; exact S2.out.row.c x _ (stp_get xN)
      have yn : 0 ≤ y := by rw [← hy]; exact D2.out.nn _
      have HMN := Lib.hid (mins_next (f := f2) hx')
      have HY := Lib.hid hy
      clear hy hxc hx' xn xe
      by_cases g1 : 0 < y
      · by_cases g2 : m0 = 0
        · have g3 : (m0 == 0) = true := by simpa using g2
          have hv2 : Hid (mins f2 (l.take (k + 1)) 0 = y) := by show _ = _; rw [HMN.out, HM0.out, HY.out, if_pos ⟨g1, .inl g2⟩]
          clear g2
          go_wp2_with fail
          go_roundw
          case rel => exact ⟨k + 1, by congr 1, by omega, by rw [hv2.out], rfl⟩
          case measure => simp [intOf]; omega
        · have g3 : (m0 == 0) = false := by simpa using g2
          by_cases g4 : y < m0
          · have hv2 : Hid (mins f2 (l.take (k + 1)) 0 = y) := by show _ = _; rw [HMN.out, HM0.out, HY.out, if_pos ⟨g1, .inr g4⟩]
            clear g2
            go_wp2_with fail
            go_roundw
            case rel => exact ⟨k + 1, by congr 1, by omega, by rw [hv2.out], rfl⟩
            case measure => simp [intOf]; omega
          · have hv2 : Hid (mins f2 (l.take (k + 1)) 0 = m0) := by show _ = _; rw [HMN.out, HM0.out, HY.out, if_neg (fun h => h.2.elim g2 g4)]
            clear g2
            go_wp2_with fail
            go_roundw
            case rel => exact ⟨k + 1, by congr 1, by omega, by rw [hv2.out], rfl⟩
            case measure => simp [intOf]; omega
      · have hv2 : Hid (mins f2 (l.take (k + 1)) 0 = m0) := by show _ = _; rw [HMN.out, HM0.out, HY.out, if_neg (fun h => g1 h.1)]
        go_wp2_with fail
        go_roundw
        case rel => exact ⟨k + 1, by congr 1, by omega, by rw [hv2.out], rfl⟩
        case measure => simp [intOf]; omega
    case neg =>
      have c0 : ¬ (k : Int) < (l.length : Int) := by omega
      have HMA : Hid (mins f2 (adj e (v : Int)) 0 = m0) := by
        have h := HM0.out
        rw [List.take_of_length_le (by omega)] at h
        show _ = _
        rw [HL.out]
        exact h
      have TH := Lib.hid (thr_ok D2.out)
      by_cases g : m0 = 0
      case pos =>
        have g3 : (m0 == 0) = true := by simpa using g
        have hv2 : Hid (Gr.thr e f2 (v : Int) = []) := by show Gr.thr _ _ _ = _; unfold Gr.thr; rw [HMA.out, if_pos g]
        clear g
        go_wp2_with fail
        go_ret
        refine ⟨[], _, rfl, ?_⟩
        have h := TH.out
        rw [hv2.out] at h
        exact ⟨h, by simp, SIn.nil _ _ _, fun _ => rfl, ⟨_, _, S2.out⟩, K2.out⟩
      case neg =>
        have g3 : (m0 == 0) = false := by simpa using g
        obtain ⟨M, rfl⟩ : ∃ M : Nat, m0 = (M : Int) + 1 := ⟨(m0 - 1).toNat, by omega⟩
        have hv2 : Hid (Gr.thr e f2 (v : Int) = (v : Int) :: tl e f2 M (v : Int)) := by
          show Gr.thr _ _ _ = _
          unfold Gr.thr
          rw [HMA.out, if_neg g, show ((M : Int) + 1 - 1).toNat = M by omega]
        have hex : ∃ y, ((v : Int), y) ∈ e ∧ f2 y = (M : Int) + 1 := by
          obtain ⟨-, -, -, -, h4⟩ := mins_spec f2 D2.out.nn (adj e (v : Int)) 0 (Int.le_refl _)
          rw [HMA.out] at h4
          obtain ⟨y, hy, h5⟩ := (h4 g).resolve_left g
          exact ⟨y, mem_adj.1 hy, h5⟩
        have Mb : M ≤ 300 := by
          obtain ⟨y, -, h5⟩ := hex
          have := D2.out.bd y
          omega
        have C3 : Hid (CyS e f2 (v : Int) M M ((M : Int) + 1) [(v : Int)] (.slice (some ⟨w2.heap.size, 0, none⟩) 1 1) (w2.heap.size + 1) w2 ((w2.alloc (.cells #[.int .i64 (v : Int)] 3)).alloc (.cells #[.int .i64 ((M : Int) + 1)] 3))) := by
          refine ⟨rfl, (World.ownsRow_lit (base := w2.heap.size) (e := 3) (size := 1) w2 #[.int .i64 (v : Int)] 1 (Nat.le_refl _) (by decide) rfl).alloc _, ?_, by simp, hex, by simp; omega, ?_, ⟨by omega, by simp⟩, ?_, ?_⟩
          · rfl
          · have h : (w2.alloc (.cells #[.int .i64 (v : Int)] 3)).heap.size = w2.heap.size + 1 := by simp
            rw [← h, World.cell?_alloc_new]
            rfl
          · intro h
            injection h with h
            simp at h
          · exact chain (Below.new1 _) (Below.new1 _)
        clear g hex
        go_wp2_with fail
        go_loopw [11, 12] (fun vc vl wr => CRel2 e f2 (v : Int) M w2 vc vl wr) (fun vc _ _ => M + 1 - lenV vc)
        case atStart => exact ⟨M, _, [(v : Int)], _, _, _, rfl, rfl, C3.out⟩
        case round =>
          clear C3 c c0 hk k0
          obtain ⟨m, z, c, ca, cc, b12, rfl, rfl, hC⟩ := hrel
          have HC := Lib.hid hC
          have cl := hC.len
          have zc := hC.cell
          have bl := hC.bl.2
          have hz := hC.zm
          have b5' : wr.cell? ⟨w.heap.size, 0, none⟩ = some (.pointer (some ⟨gp, 0, none⟩)) := by rw [hC.below.cell (p := ⟨w.heap.size, 0, none⟩) l5]; exact b5
          have l5' : w.heap.size < wr.heap.size := Nat.lt_of_lt_of_le l5 hC.below.size
          cases m with
          | zero =>
            have zg : ¬ 1 < z := by omega
            clear hC hz
            go_wp2_with fail
            go_ret
            have he := HC.out.eq
            rw [show tl e f2 0 (lastOf c) = [] from rfl, List.append_nil, ← hv2.out] at he
            refine ⟨c, _, rfl, by rw [he]; exact TH.out, by omega, (SIn.own HC.out.own (by simp) (Nat.le_refl _)).mono (Nat.le_of_lt l5) (Nat.le_refl _), fun h => absurd h HC.out.ne, ⟨_, _, S2.out.below HC.out.below⟩, K2.out.trans (Keep.of HC.out.below _ _)⟩
          | succ m =>
            have zg : 1 < z := by omega
            have zb : z ≤ 1000 := by omega
            obtain ⟨x', hf, xe, heq, hex⟩ := hC.pick D2.out
            have HEQ := Lib.hid heq
            have HEX := Lib.hid hex
            have HF := Lib.hid hf
            obtain ⟨p, hp⟩ : ∃ p, c.length = p + 1 := ⟨c.length - 1, by have := List.length_pos_iff.2 hC.ne; omega⟩
            have g1 := (last_get hp).1
            have an := (HN.out _ xe).1
            have xn := (HN.out _ xe).2
            simp only at an xn
            obtain ⟨a, ha⟩ := Int.eq_ofNat_of_zero_le an.1
            obtain ⟨x, rfl⟩ := Int.eq_ofNat_of_zero_le xn.1
            rw [ha] at g1 hf xe an
            have aN : a < n := by omega
            obtain ⟨ca', cc', e1, -, hcc⟩ := SAt.own hC.own (by simp)
            simp only [List.length_map, Value.slice.injEq] at e1
            obtain ⟨rfl, -, rfl⟩ := e1
            obtain ⟨g, go, rfl, t6, t7⟩ := hcc p _ (ints_at g1)
            obtain ⟨y, hy, t8, t9⟩ := (N2.out.below hC.below).get (adjs_get (es := fl false e) aN)
            obtain ⟨ya, yc, rfl, -, -⟩ := id hy
            rw [List.length_map] at t9 hy
            obtain ⟨l2, hl2⟩ : ∃ l, adj e (a : Int) = l := ⟨_, rfl⟩
            have t10 : wr.cell? ⟨nb, noff + a, none⟩ = some (.slice ya l2.length yc) := by rw [← hl2]; exact t9
            have HY : Hid (SIn nlo nhi wr (.slice ya l2.length yc) (ints l2)) := by show SIn _ _ _ _ _; rw [← hl2]; exact hy
            have ll2 : l2.length ≤ 2000 := by rw [← hl2]; exact Nat.le_trans (adj_len _ _) hel
            have HN2 : Hid (∀ y ∈ l2, 0 ≤ y ∧ y < (n : Int)) := fun y hy => by
              rw [← hl2] at hy
              exact (HN.out _ (mem_adj.1 hy)).2
            rw [hl2] at hf
            have HF2 := Lib.hid hf
            have HIX := Lib.hid (indexFunc_x (S2.out.below hC.below) b5' zc HY.out HN2.out (by omega) hf)
            have HP := Lib.hid hp
            have p0 : (0 : Int) ≤ (p : Int) := by omega
            have p1 : (c.length : Int) - 1 = (p : Int) := by omega
            have p2 : (p : Int) < (c.length : Int) := by omega
            have a0 : (0 : Int) ≤ (a : Int) := by omega
            have a1 : (a : Int) < (n : Int) := by omega
            have HZ := Lib.hid hz
            have CL := Lib.hid cl
            clear hC hf xe heq hex g1 an xn ha hcc hy t9 hl2 hp hz
            go_wp2_with fail
            refine HIX.out.mono ?_
            rintro r w3 ⟨i, rfl, hi, d, rfl⟩
            obtain ⟨ya', yc', e1, -, hyc⟩ := HY.out
            simp only [List.length_map, Value.slice.injEq] at e1
            obtain ⟨rfl, -, rfl⟩ := e1
            obtain ⟨yb, yo, rfl, -, t11, t12⟩ := hyc i _ (ints_at hi)
            have i0 : (0 : Int) ≤ (i : Int) := by omega
            have i1 : (i : Int) < (l2.length : Int) := by have := (List.getElem?_eq_some_iff.1 hi).1; omega
            clear hyc hi HIX
            have CA := Lib.hid (HC.out.next (below_drewN (Below.new1 (.cells #[.int .i64 (x : Int)] 3)) d))
            go_wp2_with (at_builtin; refine wpList_append_own_at _ rfl (.tmp 68) (.tmp 76) 25 rfl w2.heap.size 3 rj (.int .i64 0) 1 8 Try.underlying25 Hj.out Hy0.out Hy1.out Hy2.out rfl (by decide) _ c.length (ints c) rfl CA.out.own ⟨wr.heap.size, 0, none⟩ 1 1 [.int .i64 (x : Int)] rfl rfl ?f1 ?f2 ?f3 ?f4 ?f5 ?_)
            case f1 => exact cell_new1 _ _ _ _ rfl
            case f2 => intro u hu; simp at hu; subst hu; rfl
            case f3 => unfold maxLen; omega
            case f4 => omega
            case f5 => have := CA.out.below.size; exact this
            intro v5 w5 hown5 hgrow5 _ hlies5
            obtain ⟨va, vc, e5, -, -⟩ := SAt.own hown5 (by simp)
            rw [List.length_append, List.length_map, List.length_singleton] at e5
            subst e5
            have z5 : w5.cell? ⟨b12, 0, none⟩ = some (.int .i64 z) := hgrow5.cell (a := ⟨b12, 0, none⟩) CA.out.cell (fun e => CA.out.far e.symm)
            have l7 : b12 < w5.heap.size := Nat.lt_of_lt_of_le CA.out.bl.2 hgrow5.size
            have B7 : Hid (Below w2.heap.size w2 w5) := CA.out.below.grown hgrow5 CA.out.below.size (fun k hk => (CA.out.own.lt k hk).1)
            have C7 : Hid (CyS e f2 (v : Int) M m (z - 1) (c ++ [(x : Int)]) (.slice va (c.length + 1) vc) w5.heap.size w2 (w5.alloc (.cells #[.int .i64 (z - 1)] 3))) := by
              refine ⟨by have := HZ.out; omega, ?_, HEQ.out, by simp, HEX.out, by rw [List.length_append]; have := CL.out; simp; omega, ?_, ⟨B7.out.size, by simp⟩, fun h => ?_, chain B7.out (Below.new1 _)⟩
              · rw [List.length_append, ints, List.map_append]
                exact hown5.alloc _
              · rw [World.cell?_alloc_new]; rfl
              · have := (hown5.lt _ h).2
                omega
            clear hown5 hgrow5 hlies5 CA HC
            go_wp2_with fail
            go_roundw
            case rel => exact ⟨m, z - 1, c ++ [(x : Int)], va, vc, w5.heap.size, by rw [List.length_append]; rfl, rfl, by rw [List.length_append]; exact C7.out⟩
            case measure => simp [lenV]; omega

end Go.Proofs.Ytndcbhgdlaemaaa
