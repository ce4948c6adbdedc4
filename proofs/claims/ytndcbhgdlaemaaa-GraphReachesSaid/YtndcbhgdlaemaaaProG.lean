/-
  The program's Reach and Order.
-/
import Derived.Test.YtndcbhgdlaemaaaProF
namespace Go.Proofs.Ytndcbhgdlaemaaa
open Go.RowKit Gr

abbrev bls (n : Nat) (g : Int → Bool) : List Value := bools ((nodes n).map g)
theorem bls_len (n : Nat) (g : Int → Bool) : (bls n g).length = n := by rw [List.length_map, List.length_map, nodes_len]; simp
theorem bls_get {n : Nat} {g : Int → Bool} {i : Nat} (h : i < n) : (bls n g)[i]? = some (.bool (g i)) := by
  rw [List.getElem?_map, List.getElem?_map, nodes_get (by simpa using h)]
  rfl
theorem bls_set (n : Nat) (g g' : Int → Bool) (i : Nat) (d : Bool) (h1 : g' i = d) (h2 : ∀ j : Nat, j ≠ i → j < n → g' j = g j) : (bls n g).set i (.bool d) = bls n g' := by
  apply List.ext_getElem?
  intro j
  rw [List.getElem?_set]
  by_cases c : i = j
  · subst c
    rw [if_pos rfl]
    by_cases d2 : i < n
    · rw [if_pos (by rw [bls_len]; exact d2), bls_get d2, h1]
    · rw [if_neg (by rw [bls_len]; exact d2), List.getElem?_eq_none (by rw [bls_len]; omega)]
  · rw [if_neg c]
    by_cases d2 : j < n
    · rw [bls_get d2, bls_get d2, h2 j (fun e => c e.symm) d2]
    · rw [List.getElem?_eq_none (by rw [bls_len]; omega), List.getElem?_eq_none (by rw [bls_len]; omega)]
theorem bls_congr {n : Nat} {g g' : Int → Bool} (h : ∀ j : Nat, j < n → g j = g' j) : bls n g = bls n g' := by
  unfold bls bools
  congr 1
  exact List.map_congr_left fun u hu => by
    obtain ⟨h0, h1⟩ := mem_nodes.1 hu
    have := h u.toNat (by omega)
    rwa [Int.toNat_of_nonneg h0] at this
theorem made_bls (n : Nat) : (madeCells #[Value.bool false] n).toList = bls n (fun _ => false) := by
  rw [toList_madeCells_one]
  symm
  rw [List.eq_replicate_iff]
  refine ⟨bls_len _ _, fun b hb => ?_⟩
  simp only [bls, bools, List.mem_map] at hb
  obtain ⟨_, ⟨_, _, rfl⟩, rfl⟩ := hb
  rfl
theorem made_stp1 (n : Nat) : (madeCells #[Value.int .i64 0] n).toList = stp n (fun _ => 0) := by
  have h := made_stp n
  rwa [Nat.mul_one] at h
theorem stp_congr {n : Nat} {f f' : Int → Int} (h : ∀ a, f a = f' a) : stp n f = stp n f' := by rw [show f = f' from funext h]

structure RS (lo hi gp gs gq n : Nat) (near : Value) (f : Int → Int) (q : List Int) (k : Nat) (w wr : World) : Prop where
  row : Row wr w.heap.size (bls n (fun u => decide (u < (k : Int)) && decide (0 < f u)))
  sr : Sr lo hi gp gs gq n near wr f q
  below : Below w.heap.size w wr
def RRel2 (lo hi gp gs gq n : Nat) (near : Value) (f : Int → Int) (q : List Int) (w : World) (i : Value) (wr : World) : Prop := ∃ k : Nat, i = .int .i64 (k : Int) ∧ k ≤ n ∧ RS lo hi gp gs gq n near f q k w wr

set_option maxHeartbeats 6400000 in
theorem reach_x (v : Value) (n : Int) (e : E) (a : Int) (w : World) (hat : EAt w v e) (hl : e.length ≤ 1099511627776) :
    Calls Try.prog 15 #[.int .i64 n, v, .int .i64 a] w fun r w' => ∃ x, r = .returned x ∧ SAt w' x (bools (reach n e a)) ∧ Below w.heap.size w w' := by
  have HAT := Lib.hid hat
  obtain ⟨ad, cap, rfl, -, -⟩ := id hat
  have HR := Lib.hid (isRight_x _ n e w hat (by omega))
  obtain ⟨rb, hrb⟩ : ∃ rb, rightB n e = rb := ⟨_, rfl⟩
  have RB := Lib.hid hrb
  obtain ⟨nb, hnb⟩ : ∃ nb, nodeB n a = nb := ⟨_, rfl⟩
  have NB := Lib.hid hnb
  cases rb with
  | false =>
    have hv : Hid (reach n e a = []) := reach_not (fun h => by rw [hrb] at h; exact Bool.false_ne_true h.1)
    clear hrb hat hnb
    go_enter Try.func15, Try.ntmps15
    go_wp2_with fail
    refine HR.out.mono ?_
    rintro r w1 ⟨rfl, b1⟩
    rw [RB.out]
    have B1 := Lib.hid b1
    clear b1
    go_wp2_with fail
    go_ret
    exact ⟨_, rfl, by rw [hv.out]; exact SAt.nil _, B1.out⟩
  | true =>
    cases nb with
    | false =>
      have hv : Hid (reach n e a = []) := reach_not (fun h => by rw [hnb] at h; exact Bool.false_ne_true h.2)
      clear hrb hat hnb
      go_enter Try.func15, Try.ntmps15
      go_wp2_with fail
      refine HR.out.mono ?_
      rintro r w1 ⟨rfl, b1⟩
      rw [RB.out]
      have B1 := Lib.hid b1
      clear b1
      go_wp2_with fail
      refine (isNode_x _ _ _).mono ?_
      rintro r w2 ⟨rfl, rfl⟩
      rw [NB.out]
      go_wp2_with fail
      go_ret
      exact ⟨_, rfl, by rw [hv.out]; exact SAt.nil _, B1.out⟩
    | true =>
      obtain ⟨⟨n0, n300⟩, hel, hn⟩ := right_iff.1 hrb
      have ha : 0 ≤ a ∧ a < n := of_decide_eq_true hnb
      obtain ⟨N, rfl⟩ := Int.eq_ofNat_of_zero_le n0
      obtain ⟨s, rfl⟩ := Int.eq_ofNat_of_zero_le ha.1
      have hs : s < N := by omega
      have N300 : N ≤ 300 := by omega
      have HN := Lib.hid hn
      have hv : Hid (reach (N : Int) e (s : Int) = (nodes N).map (reachB e (s : Int))) := reach_of hrb ha
      obtain ⟨ri, hi, hz0, hz1, hz2⟩ := info_parts infoB
      have Hi := Lib.hid hi
      have Hz0 := Lib.hid hz0
      have Hz1 := Lib.hid hz1
      have Hz2 := Lib.hid hz2
      clear hrb hat hnb hn ha hi hz0 hz1 hz2
      go_enter Try.func15, Try.ntmps15
      go_wp2_with fail
      refine HR.out.mono ?_
      rintro r w1 ⟨rfl, b1⟩
      rw [RB.out]
      have B1 := Lib.hid b1
      clear b1
      go_wp2_with fail
      refine (isNode_x _ _ _).mono ?_
      rintro r w2 ⟨rfl, rfl⟩
      rw [NB.out]
      go_wp2_with fail
      refine (ahead_x _ N e w1 (HAT.out.below B1.out (Nat.le_refl _)) hel N300 HN.out).mono ?_
      rintro r w2 ⟨na, nc, rfl, h2, b2⟩
      have L2 := Lib.hid h2
      have B2 := Lib.hid (chain B1.out b2)
      have Z2 : Hid (w1.heap.size ≤ w2.heap.size) := b2.size
      clear h2 b2
      go_wp2_with fail
      refine (newSearch_x na N nc w2 N300).mono ?_
      rintro r w3 ⟨gp, gs, gq, rfl, h3, b3⟩
      have S3 := Lib.hid h3
      have L3 := Lib.hid (L2.out.below b3)
      have B3 := Lib.hid (chain B2.out b3)
      have Z3 : Hid (w2.heap.size ≤ w3.heap.size) := b3.size
      clear h3 b3
      go_wp2_with fail
      refine (from_x S3.out L3.out (.inl (Nat.le_refl _)) (fl_node HN.out) N300 (by rw [fl_len]; exact hel) hs).mono ?_
      rintro r w4 ⟨rfl, f, q, h4, d4, k4⟩
      have S4 := Lib.hid h4
      have D4 := Lib.hid d4
      have B4 : Hid (Below w.heap.size w w4) := B3.out.trans (k4.below (B2.out.size) (B3.out.size))
      clear h4 d4 k4
      go_wp2_with (at_make; refine wpList_make_full _ rfl (.tmp 27) (.tmp 27) 30 rfl w4.heap.size 4 ri (.bool false) 1 Try.underlying30 Hi.out Hz0.out Hz1.out .i64 .i64 (N : Int) (N : Int) N rfl rfl rfl rfl ?f1 ?f2 ?f3 ?_)
      case f1 => rw [Hz2.out]; omega
      case f2 => unfold maxLen; omega
      case f3 => exact Nat.le_refl _
      intro w5 hown5 hgrow5
      have R5 : Hid (RS w2.heap.size w3.heap.size gp gs gq N (.slice na N nc) f q 0 w4 w5) := by
        rw [made_bls] at hown5
        refine ⟨?_, S4.out.below (grown_below hgrow5), grown_below hgrow5⟩
        have h := Row.own hown5 (bls_len _ _).symm
        rw [bls_congr (g' := fun u => decide (u < ((0 : Nat) : Int)) && decide (0 < f u)) (fun j hj => by rw [decide_eq_false (show ¬ (j : Int) < ((0 : Nat) : Int) by omega)]; rfl)] at h
        exact h
      clear hown5 hgrow5
      go_wp2_with fail
      go_loopw [31] (fun i wr => RRel2 w2.heap.size w3.heap.size gp gs gq N (.slice na N nc) f q w4 i wr) (fun i _ => N - (intOf i).toNat)
      case atStart => exact ⟨0, rfl, Nat.zero_le _, R5.out⟩
      case round =>
        clear R5
        obtain ⟨k, rfl, hk, hB⟩ := hrel
        have HB := Lib.hid hB
        have k0 : (0 : Int) ≤ (k : Int) := by omega
        clear hB
        by_cases c : k < N
        case neg =>
          have c0 : ¬ (k : Int) < (N : Int) := by omega
          obtain rfl : k = N := by omega
          go_wp2_with fail
          go_ret
          refine ⟨_, rfl, ?_, chain B4.out HB.out.below⟩
          rw [hv.out]
          have h := HB.out.row.at (n := k) (cap := k) (bls_len _ _).symm (Nat.le_refl _)
          rw [bls_congr (g' := reachB e (s : Int)) (fun j hj => ?_)] at h
          · exact h
          · rw [decide_eq_true (show (j : Int) < (k : Int) by omega), Bool.true_and, Bool.eq_iff_iff, decide_eq_true_iff, reachB_iff]
            exact D4.out.reach
        case pos =>
          have c0 : (k : Int) < (N : Int) := by omega
          have r1 := HB.out.row.c k _ (bls_get c)
          have r2 := HB.out.row.fz k (by rw [bls_len]; exact c)
          have l1 := HB.out.row.lt
          go_wp2_with fail
          refine (reached_x HB.out.sr c).mono ?_
          rintro r w6 ⟨rfl, rfl⟩
          obtain ⟨y, hy⟩ : ∃ y, decide (0 < f (k : Int)) = y := ⟨_, rfl⟩
          rw [hy]
          have R6 : Hid (RS w2.heap.size w3.heap.size gp gs gq N (.slice na N nc) f q (k + 1) w4 (wr.setCell ⟨w4.heap.size, k, none⟩ (.bool y))) := by
            refine ⟨?_, HB.out.sr.keep (Keep.set _ _ _ (Nat.le_refl w4.heap.size) (Nat.lt_succ_self _)) (.inl (S4.out.hi1)), HB.out.below.setCell (Nat.le_refl _) _⟩
            have h := HB.out.row.set k (.bool y) (by rw [bls_len]; exact c)
            rw [bls_set N _ (fun u => decide (u < ((k + 1 : Nat) : Int)) && decide (0 < f u)) k y ?_ ?_] at h
            · exact h
            · rw [decide_eq_true (show (k : Int) < ((k + 1 : Nat) : Int) by omega), Bool.true_and]; exact hy
            · intro j hj hjN
              rw [decide_eq_decide.2 (show (j : Int) < ((k + 1 : Nat) : Int) ↔ (j : Int) < (k : Int) by omega)]
          have HY := Lib.hid hy
          clear hy
          go_wp2_with fail
          go_roundw
          case rel => exact ⟨k + 1, by congr 1, by omega, R6.out⟩
          case measure => simp [intOf]; omega

end Go.Proofs.Ytndcbhgdlaemaaa
