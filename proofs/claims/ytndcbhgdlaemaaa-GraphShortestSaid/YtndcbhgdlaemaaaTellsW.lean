/-
  The law GraphTells' walk.
-/
import Derived.Test.YtndcbhgdlaemaaaLawB
namespace Go.Proofs.Ytndcbhgdlaemaaa
open Go.RowKit Gr

theorem drew_below {w w' : World} {q : Nat} (h : w' = w.drewN q) : Below w.heap.size w w' := by rw [h]; exact below_drewN (Below.refl _ _) q
theorem ord_len (n : Int) (e : E) : (ordL n e).length ≤ 1152921504606846976 := by
  unfold ordL
  cases ho : order n e with
  | none => simp
  | some l =>
    obtain ⟨hr, -, hlen⟩ := order_ok ho
    have := (right_iff.1 hr).1
    show l.length ≤ _
    omega
theorem reach_bound (n : Int) (e : E) (a : Int) : (reach n e a).length ≤ 1152921504606846976 := by
  by_cases h : rightB n e = true ∧ nodeB n a = true
  · rw [reach_len h.1 (of_decide_eq_true h.2)]
    have := (right_iff.1 h.1).1
    omega
  · rw [reach_not h]; simp
theorem cycle_bound (n : Int) (e : E) : (cycle n e).length ≤ 1152921504606846976 := by
  by_cases hr : rightB n e = true
  · by_cases hc : cycle n e = []
    · rw [hc]; simp
    · have := (cycle_some hr hc).len hr
      have := (right_iff.1 hr).1
      omega
  · rw [cycle_wrong (by simpa using hr)]; simp
theorem groups_bound (n : Int) (e : E) : (groups n e).length ≤ 1152921504606846976 := by
  by_cases hr : rightB n e = true
  · have := groups_len hr
    have := (right_iff.1 hr).1
    omega
  · rw [groups_wrong (by simpa using hr)]; simp
theorem group_bound (n : Int) (e : E) : ∀ u ∈ groups n e, u.length ≤ 1152921504606846976 := by
  intro u hu
  by_cases hr : rightB n e = true
  · obtain ⟨i, hi⟩ := List.mem_iff_getElem?.1 hu
    obtain ⟨a, -, rfl⟩ := groups_get hr hi
    unfold groupOf
    refine Nat.le_trans (List.length_filter_le _ _) ?_
    rw [nodes_len]
    have := (right_iff.1 hr).1
    omega
  · rw [groups_wrong (by simpa using hr)] at hu; simp at hu

set_option maxHeartbeats 6400000 in
theorem GraphTells_x (h : GraphOk) (v : Value) (n : Int) (e : E) (a : Int) (w : World) (hat : EAt w v e) (hok : okE2 e) (hn : I64 n) (ha : I64 a) :
    Calls Try.prog 3 #[.int .i64 n, v, .int .i64 a] w fun e w' => e = .returned (.bool true) ∧ Below w.heap.size w w' := by
  have HA := hat
  obtain ⟨ad, cap, rfl, -, -⟩ := hat
  have OK := Lib.hid hok
  have HN := Lib.hid hn
  have HF := Lib.hid ha
  have cc : Below w.heap.size w w := Below.refl _ _
  obtain ⟨fb, hfb⟩ : ∃ fb, fewB n e = fb := ⟨_, rfl⟩
  have FB := Lib.hid hfb
  clear hok hn ha
  cases fb with
  | false =>
    clear hfb
    go_enter Try.func3, Try.ntmps3
    go_wp2_with fail
    refine (sane_x h _).mono ?_
    rintro r w1 ⟨rfl, bb⟩
    have HA' := HA.below bb (Nat.le_refl _)
    clear HA
    have HA := HA'
    clear HA'
    have cc' := chain cc bb
    clear cc bb
    have cc := cc'
    clear cc'
    go_wp2_with fail
    refine (few_x _ n e _ HA).mono ?_
    rintro r w2 ⟨rfl, rfl⟩
    rw [FB.out]
    go_wp2_with fail
    go_ret
    exact ⟨by try rfl, cc⟩
  | true =>
    have h24 := (of_decide_eq_true hfb).2
    have hl2 : e.length ≤ 1099511627776 := by omega
    have hl3 : e.length ≤ 1152921504606846976 := by omega
    clear hfb
    go_enter Try.func3, Try.ntmps3
    go_wp2_with fail
    refine (sane_x h _).mono ?_
    rintro r w1 ⟨rfl, bb⟩
    have HA' := HA.below bb (Nat.le_refl _)
    clear HA
    have HA := HA'
    clear HA'
    have cc' := chain cc bb
    clear cc bb
    have cc := cc'
    clear cc'
    go_wp2_with fail
    refine (few_x _ n e _ HA).mono ?_
    rintro r w2 ⟨rfl, rfl⟩
    rw [FB.out]
    go_wp2_with fail
    refine (h.order _ n e _ HA hl2 OK.out HN.out).mono ?_
    rintro r w2 ⟨x1, rfl, X1, bb⟩
    have HA' := HA.below bb (Nat.le_refl _)
    clear HA
    have HA := HA'
    clear HA'
    have cc' := chain cc bb
    clear cc bb
    have cc := cc'
    clear cc'
    go_wp2_with fail
    refine (Order_x _ n e _ HA hl3).mono ?_
    rintro r w3 ⟨x2, rfl, X2, bb⟩
    have HA' := HA.below bb (Nat.le_refl _)
    clear HA
    have HA := HA'
    clear HA'
    have X1' := X1.below bb (Nat.le_refl _)
    clear X1
    have X1 := X1'
    clear X1'
    have cc' := chain cc bb
    clear cc bb
    have cc := cc'
    clear cc'
    go_wp2_with fail
    refine (SameInts_x _ _ _ _ _ X1 X2 (ord_len n e)).mono ?_
    rintro r w4 ⟨rfl, q, hq⟩
    have bb := drew_below hq
    clear hq q
    rw [decide_eq_true (Eq.refl (ordL n e))]
    have HA' := HA.below bb (Nat.le_refl _)
    clear HA
    have HA := HA'
    clear HA'
    have X1' := X1.below bb (Nat.le_refl _)
    clear X1
    have X1 := X1'
    clear X1'
    have X2' := X2.below bb (Nat.le_refl _)
    clear X2
    have X2 := X2'
    clear X2'
    have cc' := chain cc bb
    clear cc bb
    have cc := cc'
    clear cc'
    clear X1 X2
    go_wp2_with fail
    refine (h.reach _ n e a _ HA hl2 OK.out HN.out HF.out).mono ?_
    rintro r w5 ⟨x3, rfl, X3, bb⟩
    have HA' := HA.below bb (Nat.le_refl _)
    clear HA
    have HA := HA'
    clear HA'
    have cc' := chain cc bb
    clear cc bb
    have cc := cc'
    clear cc'
    go_wp2_with fail
    refine (Reach_x _ n a e _ HA hl3).mono ?_
    rintro r w6 ⟨x4, rfl, X4, bb⟩
    rw [← reach_eq] at X4
    have HA' := HA.below bb (Nat.le_refl _)
    clear HA
    have HA := HA'
    clear HA'
    have X3' := X3.below bb (Nat.le_refl _)
    clear X3
    have X3 := X3'
    clear X3'
    have cc' := chain cc bb
    clear cc bb
    have cc := cc'
    clear cc'
    go_wp2_with fail
    refine (SameBools_x _ _ _ _ _ X3 X4 (reach_bound n e a)).mono ?_
    rintro r w7 ⟨rfl, q, hq⟩
    have bb := drew_below hq
    clear hq q
    rw [decide_eq_true (Eq.refl (reach n e a))]
    have HA' := HA.below bb (Nat.le_refl _)
    clear HA
    have HA := HA'
    clear HA'
    have X3' := X3.below bb (Nat.le_refl _)
    clear X3
    have X3 := X3'
    clear X3'
    have X4' := X4.below bb (Nat.le_refl _)
    clear X4
    have X4 := X4'
    clear X4'
    have cc' := chain cc bb
    clear cc bb
    have cc := cc'
    clear cc'
    clear X3 X4
    go_wp2_with fail
    refine (h.cycle _ n e _ HA hl2 OK.out HN.out).mono ?_
    rintro r w8 ⟨x5, rfl, X5, bb⟩
    have HA' := HA.below bb (Nat.le_refl _)
    clear HA
    have HA := HA'
    clear HA'
    have cc' := chain cc bb
    clear cc bb
    have cc := cc'
    clear cc'
    go_wp2_with fail
    refine (Cycle_x _ n e _ HA hl3).mono ?_
    rintro r w9 ⟨x6, rfl, X6, bb⟩
    rw [← cycle_eq] at X6
    have HA' := HA.below bb (Nat.le_refl _)
    clear HA
    have HA := HA'
    clear HA'
    have X5' := X5.below bb (Nat.le_refl _)
    clear X5
    have X5 := X5'
    clear X5'
    have cc' := chain cc bb
    clear cc bb
    have cc := cc'
    clear cc'
    go_wp2_with fail
    refine (SameInts_x _ _ _ _ _ X5 X6 (cycle_bound n e)).mono ?_
    rintro r w10 ⟨rfl, q, hq⟩
    have bb := drew_below hq
    clear hq q
    rw [decide_eq_true (Eq.refl (cycle n e))]
    have HA' := HA.below bb (Nat.le_refl _)
    clear HA
    have HA := HA'
    clear HA'
    have X5' := X5.below bb (Nat.le_refl _)
    clear X5
    have X5 := X5'
    clear X5'
    have X6' := X6.below bb (Nat.le_refl _)
    clear X6
    have X6 := X6'
    clear X6'
    have cc' := chain cc bb
    clear cc bb
    have cc := cc'
    clear cc'
    clear X5 X6
    go_wp2_with fail
    refine (h.groups _ n e _ HA hl2 OK.out HN.out).mono ?_
    rintro r w11 ⟨x7, rfl, X7, bb⟩
    have HA' := HA.below bb (Nat.le_refl _)
    clear HA
    have HA := HA'
    clear HA'
    have cc' := chain cc bb
    clear cc bb
    have cc := cc'
    clear cc'
    go_wp2_with fail
    refine (Groups_x _ n e _ HA hl3).mono ?_
    rintro r w12 ⟨x8, rfl, X8, bb⟩
    have HA' := HA.below bb (Nat.le_refl _)
    clear HA
    have HA := HA'
    clear HA'
    have X7' := X7.below bb (Nat.le_refl _)
    clear X7
    have X7 := X7'
    clear X7'
    have cc' := chain cc bb
    clear cc bb
    have cc := cc'
    clear cc'
    go_wp2_with fail
    refine (SameLists_x _ _ _ _ _ X7 X8 (groups_bound n e) (group_bound n e)).mono ?_
    rintro r w13 ⟨rfl, q, hq⟩
    have bb := drew_below hq
    clear hq q
    rw [decide_eq_true (Eq.refl (groups n e))]
    have HA' := HA.below bb (Nat.le_refl _)
    clear HA
    have HA := HA'
    clear HA'
    have X7' := X7.below bb (Nat.le_refl _)
    clear X7
    have X7 := X7'
    clear X7'
    have X8' := X8.below bb (Nat.le_refl _)
    clear X8
    have X8 := X8'
    clear X8'
    have cc' := chain cc bb
    clear cc bb
    have cc := cc'
    clear cc'
    clear X7 X8
    go_wp2_with fail
    go_ret
    exact ⟨by try rfl, cc⟩

end Go.Proofs.Ytndcbhgdlaemaaa
