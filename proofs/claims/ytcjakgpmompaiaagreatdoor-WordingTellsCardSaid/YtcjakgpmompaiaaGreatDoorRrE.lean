/-
  The reference checks a bill: indices, the tenor, the first error.
-/
import Derived.Test.YtcjakgpmompaiaaGreatDoorRrC
import Derived.Test.YtcjakgpmompaiaaGreatDoorRefE
import Derived.Test.YtcjakgpmompaiaaGreatDoorRefA
import Derived.Test.YtcjakgpmompaiaaGreatDoorLwR
import Derived.Test.YtcjakgpmompaiaaGreatDoorWrA
namespace Go.Proofs.YtcjakgpmompaiaaGreatDoor
open Go.RowKit Rl Wd

set_option maxHeartbeats 3200000 in
set_option maxRecDepth 100000 in
theorem Rat_x (n l : Int) (w : World) : Calls Tryz.prog 41 #[.int .i64 n, .int .i64 l] w fun r w' => r = .returned (.bool (decide (0 ≤ n) && decide (n < l))) ∧ w = w' := by
  by_cases h : 0 ≤ n
  · have h1 : decide (0 ≤ n) = true := decide_eq_true h
    rw [h1, Bool.true_and]
    go_enter Tryz.func41, Tryz.ntmps41
    go_wp2_with fail
    go_ret
    exact ⟨rfl, rfl⟩
  · have h1 : decide (0 ≤ n) = false := decide_eq_false h
    rw [h1, Bool.false_and]
    go_enter Tryz.func41, Tryz.ntmps41
    go_wp2_with fail
    go_ret
    exact ⟨rfl, rfl⟩
theorem ix_int (n : Int) (l : Nat) : (decide (0 ≤ n) && decide (n < (l : Int))) = ix n l := by
  cases e : ix n l
  · cases h : (decide (0 ≤ n) && decide (n < (l : Int)))
    · rfl
    · simp only [Bool.and_eq_true, decide_eq_true_iff] at h
      rw [ix_iff.2 h] at e
      cases e
  · have := ix_iff.1 e
    rw [decide_eq_true this.1, decide_eq_true this.2]
    rfl
theorem Rat_i (n : Int) (l : Nat) (w : World) : Calls Tryz.prog 41 #[.int .i64 n, .int .i64 (l : Int)] w fun r w' => r = .returned (.bool (ix n l)) ∧ w = w' := by
  rw [← ix_int]
  exact Rat_x n l w
set_option maxHeartbeats 3200000 in
set_option maxRecDepth 100000 in
theorem Rnone_x (n : Int) (l : Nat) (w : World) : Calls Tryz.prog 42 #[.int .i64 n, .int .i64 (l : Int)] w fun r w' => r = .returned (.bool (noneB n l)) ∧ w = w' := by
  by_cases h : n = -1
  · have h1 : (n == -1) = true := beq_iff_eq.2 h
    have h2 : noneB n l = true := by unfold noneB; rw [decide_eq_true h]; rfl
    rw [h2]
    clear h
    go_enter Tryz.func42, Tryz.ntmps42
    go_wp2_with fail
    go_ret
    exact ⟨rfl, rfl⟩
  · have h1 : (n == -1) = false := beq_eq_false_iff_ne.2 h
    have h2 : noneB n l = ix n l := by unfold noneB; rw [decide_eq_false h]; rfl
    rw [h2]
    go_enter Tryz.func42, Tryz.ntmps42
    go_wp2_with fail
    refine (Rat_i n l _).mono ?_
    rintro r wx ⟨rfl, rfl⟩
    go_wp2_with fail
    go_ret
    exact ⟨rfl, rfl⟩

set_option maxHeartbeats 3200000 in
set_option maxRecDepth 100000 in
theorem RTenor_x (b : Bl) (w : World) : Calls Tryz.prog 44 #[vB b] w fun r w' => r = .returned (.bool (termedB b)) ∧ Below w.heap.size w w' := by
  have B0 := Lib.hid (chain (Below.new1 (w := w) (.cells #[.int .i64 b.drawer, .int .i64 b.drawee, .int .i64 b.payee, .int .i64 b.sum, .int .i64 b.cur, .int .i64 b.tk, .int .i64 b.tn, .int .i64 b.tu, .int .i64 b.day, .int .i64 b.city, .int .i64 b.pay, .int .i64 b.need, .int .i64 b.rate, .int .i64 b.flags, .int .i64 b.parts] 35)) (Below.new1 (.cells #[.int .i64 b.tk, .int .i64 b.tn, .int .i64 b.tu] 33)))
  have X0 := BB.new w b _ rfl
  have X1 := X0.next (Below.new1 (.cells #[.int .i64 b.tk, .int .i64 b.tn, .int .i64 b.tu] 33))
  have T1 : Bx 33 ((w.alloc (.cells #[.int .i64 b.drawer, .int .i64 b.drawee, .int .i64 b.payee, .int .i64 b.sum, .int .i64 b.cur, .int .i64 b.tk, .int .i64 b.tn, .int .i64 b.tu, .int .i64 b.day, .int .i64 b.city, .int .i64 b.pay, .int .i64 b.need, .int .i64 b.rate, .int .i64 b.flags, .int .i64 b.parts] 35)).alloc (.cells #[.int .i64 b.tk, .int .i64 b.tn, .int .i64 b.tu] 33)) (w.heap.size + 1) [.int .i64 b.tk, .int .i64 b.tn, .int .i64 b.tu] := Bx.new _ (w.alloc (.cells #[.int .i64 b.drawer, .int .i64 b.drawee, .int .i64 b.payee, .int .i64 b.sum, .int .i64 b.cur, .int .i64 b.tk, .int .i64 b.tn, .int .i64 b.tu, .int .i64 b.day, .int .i64 b.city, .int .i64 b.pay, .int .i64 b.need, .int .i64 b.rate, .int .i64 b.flags, .int .i64 b.parts] 35)) _ _ (by simp)
  have x5 := X0.at (i := 5) rfl
  have x6 := X0.at (i := 6) rfl
  have x7 := X0.at (i := 7) rfl
  have x8 := X1.at (i := 8) rfl
  have t0 := T1.at (i := 0) rfl
  have t1 := T1.at (i := 1) rfl
  have t2 := T1.at (i := 2) rfl
  clear X0 X1 T1
  go_enter Tryz.func44, Tryz.ntmps44
  go_upto_region 2 with fail
  by_cases h : b.tk = 0
  · by_cases h1 : b.tn = 0
    · by_cases h2 : b.tu = 0
      · have q0 : (b.tk == 0) = true := beq_iff_eq.2 (by omega)
        have q1 : (b.tn == 0) = true := beq_iff_eq.2 (by omega)
        have q2 : (b.tu == 0) = true := beq_iff_eq.2 (by omega)
        have HT : Hid (termedB b = true) := by show _ = _; unfold termedB; rw [if_pos (.inl h)]; rw [decide_eq_true h1, decide_eq_true h2]; rfl
        clear h1 h2 h
        go_wp2_with fail
        go_ret
        exact ⟨by rw [HT.out]; try rfl, B0.out⟩
      · have q3 : (b.tk == 0) = true := beq_iff_eq.2 (by omega)
        have q4 : (b.tn == 0) = true := beq_iff_eq.2 (by omega)
        have q5 : (b.tu == 0) = false := beq_eq_false_iff_ne.2 (by omega)
        have p5 : ¬ b.tu = 0 := by omega
        have HT : Hid (termedB b = false) := by show _ = _; unfold termedB; rw [if_pos (.inl h)]; rw [decide_eq_true h1, decide_eq_false h2]; rfl
        clear h1 h2 h
        go_wp2_with fail
        go_ret
        exact ⟨by rw [HT.out]; try rfl, B0.out⟩
    · have q6 : (b.tk == 0) = true := beq_iff_eq.2 (by omega)
      have q7 : (b.tn == 0) = false := beq_eq_false_iff_ne.2 (by omega)
      have p7 : ¬ b.tn = 0 := by omega
      have HT : Hid (termedB b = false) := by show _ = _; unfold termedB; rw [if_pos (.inl h)]; rw [decide_eq_false h1]; rfl
      clear h1 h
      go_wp2_with fail
      go_ret
      exact ⟨by rw [HT.out]; try rfl, B0.out⟩
  · by_cases h : b.tk = 4
    · by_cases h1 : b.tn = 0
      · by_cases h2 : b.tu = 0
        · have q8 : (b.tk == 0) = false := beq_eq_false_iff_ne.2 (by omega)
          have p8 : ¬ b.tk = 0 := by omega
          have q9 : (b.tk == 4) = true := beq_iff_eq.2 (by omega)
          have q10 : (b.tn == 0) = true := beq_iff_eq.2 (by omega)
          have q11 : (b.tu == 0) = true := beq_iff_eq.2 (by omega)
          have HT : Hid (termedB b = true) := by show _ = _; unfold termedB; rw [if_pos (.inr h)]; rw [decide_eq_true h1, decide_eq_true h2]; rfl
          clear h1 h2 h
          go_wp2_with fail
          go_ret
          exact ⟨by rw [HT.out]; try rfl, B0.out⟩
        · have q12 : (b.tk == 0) = false := beq_eq_false_iff_ne.2 (by omega)
          have p12 : ¬ b.tk = 0 := by omega
          have q13 : (b.tk == 4) = true := beq_iff_eq.2 (by omega)
          have q14 : (b.tn == 0) = true := beq_iff_eq.2 (by omega)
          have q15 : (b.tu == 0) = false := beq_eq_false_iff_ne.2 (by omega)
          have p15 : ¬ b.tu = 0 := by omega
          have HT : Hid (termedB b = false) := by show _ = _; unfold termedB; rw [if_pos (.inr h)]; rw [decide_eq_true h1, decide_eq_false h2]; rfl
          clear h1 h2 h
          go_wp2_with fail
          go_ret
          exact ⟨by rw [HT.out]; try rfl, B0.out⟩
      · have q16 : (b.tk == 0) = false := beq_eq_false_iff_ne.2 (by omega)
        have p16 : ¬ b.tk = 0 := by omega
        have q17 : (b.tk == 4) = true := beq_iff_eq.2 (by omega)
        have q18 : (b.tn == 0) = false := beq_eq_false_iff_ne.2 (by omega)
        have p18 : ¬ b.tn = 0 := by omega
        have HT : Hid (termedB b = false) := by show _ = _; unfold termedB; rw [if_pos (.inr h)]; rw [decide_eq_false h1]; rfl
        clear h1 h
        go_wp2_with fail
        go_ret
        exact ⟨by rw [HT.out]; try rfl, B0.out⟩
    · by_cases h : b.tk = 1
      · by_cases h1 : 1 ≤ b.tn
        · by_cases h2 : b.tn ≤ 400
          · by_cases h3 : b.tu = 0
            · have q19 : (b.tk == 0) = false := beq_eq_false_iff_ne.2 (by omega)
              have p19 : ¬ b.tk = 0 := by omega
              have q20 : (b.tk == 4) = false := beq_eq_false_iff_ne.2 (by omega)
              have p20 : ¬ b.tk = 4 := by omega
              have q21 : (b.tk == 1) = true := beq_iff_eq.2 (by omega)
              have p22 : 1 ≤ b.tn := by omega
              have q22 : decide (1 ≤ b.tn) = true := decide_eq_true p22
              have p23 : b.tn ≤ 400 := by omega
              have q23 : decide (b.tn ≤ 400) = true := decide_eq_true p23
              have q24 : (b.tu == 0) = true := beq_iff_eq.2 (by omega)
              have HT : Hid (termedB b = true) := by show _ = _; unfold termedB; rw [if_neg (by omega), if_pos (.inl h)]; rw [wi_iff.2 ⟨h1, h2⟩, wi_iff.2 ⟨by omega, by omega⟩]; rfl
              clear h3 h
              go_wp2_with fail
              go_ret
              exact ⟨by rw [HT.out]; try rfl, B0.out⟩
            · by_cases h4 : b.tu = 1
              · have q25 : (b.tk == 0) = false := beq_eq_false_iff_ne.2 (by omega)
                have p25 : ¬ b.tk = 0 := by omega
                have q26 : (b.tk == 4) = false := beq_eq_false_iff_ne.2 (by omega)
                have p26 : ¬ b.tk = 4 := by omega
                have q27 : (b.tk == 1) = true := beq_iff_eq.2 (by omega)
                have p28 : 1 ≤ b.tn := by omega
                have q28 : decide (1 ≤ b.tn) = true := decide_eq_true p28
                have p29 : b.tn ≤ 400 := by omega
                have q29 : decide (b.tn ≤ 400) = true := decide_eq_true p29
                have q30 : (b.tu == 0) = false := beq_eq_false_iff_ne.2 (by omega)
                have p30 : ¬ b.tu = 0 := by omega
                have q31 : (b.tu == 1) = true := beq_iff_eq.2 (by omega)
                have HT : Hid (termedB b = true) := by show _ = _; unfold termedB; rw [if_neg (by omega), if_pos (.inl h)]; rw [wi_iff.2 ⟨h1, h2⟩, wi_iff.2 ⟨by omega, by omega⟩]; rfl
                clear h3 h4 h
                go_wp2_with fail
                go_ret
                exact ⟨by rw [HT.out]; try rfl, B0.out⟩
              · have q32 : (b.tk == 0) = false := beq_eq_false_iff_ne.2 (by omega)
                have p32 : ¬ b.tk = 0 := by omega
                have q33 : (b.tk == 4) = false := beq_eq_false_iff_ne.2 (by omega)
                have p33 : ¬ b.tk = 4 := by omega
                have q34 : (b.tk == 1) = true := beq_iff_eq.2 (by omega)
                have p35 : 1 ≤ b.tn := by omega
                have q35 : decide (1 ≤ b.tn) = true := decide_eq_true p35
                have p36 : b.tn ≤ 400 := by omega
                have q36 : decide (b.tn ≤ 400) = true := decide_eq_true p36
                have q37 : (b.tu == 0) = false := beq_eq_false_iff_ne.2 (by omega)
                have p37 : ¬ b.tu = 0 := by omega
                have q38 : (b.tu == 1) = false := beq_eq_false_iff_ne.2 (by omega)
                have p38 : ¬ b.tu = 1 := by omega
                have HT : Hid (termedB b = false) := by show _ = _; unfold termedB; rw [if_neg (by omega), if_pos (.inl h)]; rw [wi_iff.2 ⟨h1, h2⟩, wi_no (show b.tu < 0 ∨ 1 < b.tu by omega)]; rfl
                clear h3 h4 h
                go_wp2_with fail
                go_ret
                exact ⟨by rw [HT.out]; try rfl, B0.out⟩
          · have q39 : (b.tk == 0) = false := beq_eq_false_iff_ne.2 (by omega)
            have p39 : ¬ b.tk = 0 := by omega
            have q40 : (b.tk == 4) = false := beq_eq_false_iff_ne.2 (by omega)
            have p40 : ¬ b.tk = 4 := by omega
            have q41 : (b.tk == 1) = true := beq_iff_eq.2 (by omega)
            have p42 : 1 ≤ b.tn := by omega
            have q42 : decide (1 ≤ b.tn) = true := decide_eq_true p42
            have p43 : 400 < b.tn := by omega
            have q43 : decide (b.tn ≤ 400) = false := decide_eq_false (by omega)
            have HT : Hid (termedB b = false) := by show _ = _; unfold termedB; rw [if_neg (by omega), if_pos (.inl h)]; rw [wi_no (show b.tn < 1 ∨ 400 < b.tn by omega)]; rfl
            clear h
            go_wp2_with fail
            go_ret
            exact ⟨by rw [HT.out]; try rfl, B0.out⟩
        · have q44 : (b.tk == 0) = false := beq_eq_false_iff_ne.2 (by omega)
          have p44 : ¬ b.tk = 0 := by omega
          have q45 : (b.tk == 4) = false := beq_eq_false_iff_ne.2 (by omega)
          have p45 : ¬ b.tk = 4 := by omega
          have q46 : (b.tk == 1) = true := beq_iff_eq.2 (by omega)
          have p47 : b.tn < 1 := by omega
          have q47 : decide (1 ≤ b.tn) = false := decide_eq_false (by omega)
          have HT : Hid (termedB b = false) := by show _ = _; unfold termedB; rw [if_neg (by omega), if_pos (.inl h)]; rw [wi_no (show b.tn < 1 ∨ 400 < b.tn by omega)]; rfl
          clear h
          go_wp2_with fail
          go_ret
          exact ⟨by rw [HT.out]; try rfl, B0.out⟩
      · by_cases h : b.tk = 2
        · by_cases h1 : 1 ≤ b.tn
          · by_cases h2 : b.tn ≤ 400
            · by_cases h3 : b.tu = 0
              · have q48 : (b.tk == 0) = false := beq_eq_false_iff_ne.2 (by omega)
                have p48 : ¬ b.tk = 0 := by omega
                have q49 : (b.tk == 4) = false := beq_eq_false_iff_ne.2 (by omega)
                have p49 : ¬ b.tk = 4 := by omega
                have q50 : (b.tk == 1) = false := beq_eq_false_iff_ne.2 (by omega)
                have p50 : ¬ b.tk = 1 := by omega
                have q51 : (b.tk == 2) = true := beq_iff_eq.2 (by omega)
                have p52 : 1 ≤ b.tn := by omega
                have q52 : decide (1 ≤ b.tn) = true := decide_eq_true p52
                have p53 : b.tn ≤ 400 := by omega
                have q53 : decide (b.tn ≤ 400) = true := decide_eq_true p53
                have q54 : (b.tu == 0) = true := beq_iff_eq.2 (by omega)
                have HT : Hid (termedB b = true) := by show _ = _; unfold termedB; rw [if_neg (by omega), if_pos (.inr h)]; rw [wi_iff.2 ⟨h1, h2⟩, wi_iff.2 ⟨by omega, by omega⟩]; rfl
                clear h3 h
                go_wp2_with fail
                go_ret
                exact ⟨by rw [HT.out]; try rfl, B0.out⟩
              · by_cases h4 : b.tu = 1
                · have q55 : (b.tk == 0) = false := beq_eq_false_iff_ne.2 (by omega)
                  have p55 : ¬ b.tk = 0 := by omega
                  have q56 : (b.tk == 4) = false := beq_eq_false_iff_ne.2 (by omega)
                  have p56 : ¬ b.tk = 4 := by omega
                  have q57 : (b.tk == 1) = false := beq_eq_false_iff_ne.2 (by omega)
                  have p57 : ¬ b.tk = 1 := by omega
                  have q58 : (b.tk == 2) = true := beq_iff_eq.2 (by omega)
                  have p59 : 1 ≤ b.tn := by omega
                  have q59 : decide (1 ≤ b.tn) = true := decide_eq_true p59
                  have p60 : b.tn ≤ 400 := by omega
                  have q60 : decide (b.tn ≤ 400) = true := decide_eq_true p60
                  have q61 : (b.tu == 0) = false := beq_eq_false_iff_ne.2 (by omega)
                  have p61 : ¬ b.tu = 0 := by omega
                  have q62 : (b.tu == 1) = true := beq_iff_eq.2 (by omega)
                  have HT : Hid (termedB b = true) := by show _ = _; unfold termedB; rw [if_neg (by omega), if_pos (.inr h)]; rw [wi_iff.2 ⟨h1, h2⟩, wi_iff.2 ⟨by omega, by omega⟩]; rfl
                  clear h3 h4 h
                  go_wp2_with fail
                  go_ret
                  exact ⟨by rw [HT.out]; try rfl, B0.out⟩
                · have q63 : (b.tk == 0) = false := beq_eq_false_iff_ne.2 (by omega)
                  have p63 : ¬ b.tk = 0 := by omega
                  have q64 : (b.tk == 4) = false := beq_eq_false_iff_ne.2 (by omega)
                  have p64 : ¬ b.tk = 4 := by omega
                  have q65 : (b.tk == 1) = false := beq_eq_false_iff_ne.2 (by omega)
                  have p65 : ¬ b.tk = 1 := by omega
                  have q66 : (b.tk == 2) = true := beq_iff_eq.2 (by omega)
                  have p67 : 1 ≤ b.tn := by omega
                  have q67 : decide (1 ≤ b.tn) = true := decide_eq_true p67
                  have p68 : b.tn ≤ 400 := by omega
                  have q68 : decide (b.tn ≤ 400) = true := decide_eq_true p68
                  have q69 : (b.tu == 0) = false := beq_eq_false_iff_ne.2 (by omega)
                  have p69 : ¬ b.tu = 0 := by omega
                  have q70 : (b.tu == 1) = false := beq_eq_false_iff_ne.2 (by omega)
                  have p70 : ¬ b.tu = 1 := by omega
                  have HT : Hid (termedB b = false) := by show _ = _; unfold termedB; rw [if_neg (by omega), if_pos (.inr h)]; rw [wi_iff.2 ⟨h1, h2⟩, wi_no (show b.tu < 0 ∨ 1 < b.tu by omega)]; rfl
                  clear h3 h4 h
                  go_wp2_with fail
                  go_ret
                  exact ⟨by rw [HT.out]; try rfl, B0.out⟩
            · have q71 : (b.tk == 0) = false := beq_eq_false_iff_ne.2 (by omega)
              have p71 : ¬ b.tk = 0 := by omega
              have q72 : (b.tk == 4) = false := beq_eq_false_iff_ne.2 (by omega)
              have p72 : ¬ b.tk = 4 := by omega
              have q73 : (b.tk == 1) = false := beq_eq_false_iff_ne.2 (by omega)
              have p73 : ¬ b.tk = 1 := by omega
              have q74 : (b.tk == 2) = true := beq_iff_eq.2 (by omega)
              have p75 : 1 ≤ b.tn := by omega
              have q75 : decide (1 ≤ b.tn) = true := decide_eq_true p75
              have p76 : 400 < b.tn := by omega
              have q76 : decide (b.tn ≤ 400) = false := decide_eq_false (by omega)
              have HT : Hid (termedB b = false) := by show _ = _; unfold termedB; rw [if_neg (by omega), if_pos (.inr h)]; rw [wi_no (show b.tn < 1 ∨ 400 < b.tn by omega)]; rfl
              clear h
              go_wp2_with fail
              go_ret
              exact ⟨by rw [HT.out]; try rfl, B0.out⟩
          · have q77 : (b.tk == 0) = false := beq_eq_false_iff_ne.2 (by omega)
            have p77 : ¬ b.tk = 0 := by omega
            have q78 : (b.tk == 4) = false := beq_eq_false_iff_ne.2 (by omega)
            have p78 : ¬ b.tk = 4 := by omega
            have q79 : (b.tk == 1) = false := beq_eq_false_iff_ne.2 (by omega)
            have p79 : ¬ b.tk = 1 := by omega
            have q80 : (b.tk == 2) = true := beq_iff_eq.2 (by omega)
            have p81 : b.tn < 1 := by omega
            have q81 : decide (1 ≤ b.tn) = false := decide_eq_false (by omega)
            have HT : Hid (termedB b = false) := by show _ = _; unfold termedB; rw [if_neg (by omega), if_pos (.inr h)]; rw [wi_no (show b.tn < 1 ∨ 400 < b.tn by omega)]; rfl
            clear h
            go_wp2_with fail
            go_ret
            exact ⟨by rw [HT.out]; try rfl, B0.out⟩
        · by_cases h : b.tk = 3
          · by_cases h1 : b.day ≤ b.tn
            · by_cases h2 : b.tn ≤ 100000
              · by_cases h3 : b.tu = 0
                · have q82 : (b.tk == 0) = false := beq_eq_false_iff_ne.2 (by omega)
                  have p82 : ¬ b.tk = 0 := by omega
                  have q83 : (b.tk == 4) = false := beq_eq_false_iff_ne.2 (by omega)
                  have p83 : ¬ b.tk = 4 := by omega
                  have q84 : (b.tk == 1) = false := beq_eq_false_iff_ne.2 (by omega)
                  have p84 : ¬ b.tk = 1 := by omega
                  have q85 : (b.tk == 2) = false := beq_eq_false_iff_ne.2 (by omega)
                  have p85 : ¬ b.tk = 2 := by omega
                  have q86 : (b.tk == 3) = true := beq_iff_eq.2 (by omega)
                  have p87 : b.day ≤ b.tn := by omega
                  have q87 : decide (b.day ≤ b.tn) = true := decide_eq_true p87
                  have p88 : b.tn ≤ 100000 := by omega
                  have q88 : decide (b.tn ≤ 100000) = true := decide_eq_true p88
                  have q89 : (b.tu == 0) = true := beq_iff_eq.2 (by omega)
                  have HT : Hid (termedB b = true) := by show _ = _; unfold termedB; rw [if_neg (by omega), if_neg (by omega), if_pos h]; rw [wi_iff.2 ⟨h1, h2⟩, decide_eq_true h3]; rfl
                  clear h3 h
                  go_wp2_with fail
                  go_ret
                  exact ⟨by rw [HT.out]; try rfl, B0.out⟩
                · have q90 : (b.tk == 0) = false := beq_eq_false_iff_ne.2 (by omega)
                  have p90 : ¬ b.tk = 0 := by omega
                  have q91 : (b.tk == 4) = false := beq_eq_false_iff_ne.2 (by omega)
                  have p91 : ¬ b.tk = 4 := by omega
                  have q92 : (b.tk == 1) = false := beq_eq_false_iff_ne.2 (by omega)
                  have p92 : ¬ b.tk = 1 := by omega
                  have q93 : (b.tk == 2) = false := beq_eq_false_iff_ne.2 (by omega)
                  have p93 : ¬ b.tk = 2 := by omega
                  have q94 : (b.tk == 3) = true := beq_iff_eq.2 (by omega)
                  have p95 : b.day ≤ b.tn := by omega
                  have q95 : decide (b.day ≤ b.tn) = true := decide_eq_true p95
                  have p96 : b.tn ≤ 100000 := by omega
                  have q96 : decide (b.tn ≤ 100000) = true := decide_eq_true p96
                  have q97 : (b.tu == 0) = false := beq_eq_false_iff_ne.2 (by omega)
                  have p97 : ¬ b.tu = 0 := by omega
                  have HT : Hid (termedB b = false) := by show _ = _; unfold termedB; rw [if_neg (by omega), if_neg (by omega), if_pos h]; rw [decide_eq_false h3, Bool.and_false]
                  clear h3 h
                  go_wp2_with fail
                  go_ret
                  exact ⟨by rw [HT.out]; try rfl, B0.out⟩
              · have q98 : (b.tk == 0) = false := beq_eq_false_iff_ne.2 (by omega)
                have p98 : ¬ b.tk = 0 := by omega
                have q99 : (b.tk == 4) = false := beq_eq_false_iff_ne.2 (by omega)
                have p99 : ¬ b.tk = 4 := by omega
                have q100 : (b.tk == 1) = false := beq_eq_false_iff_ne.2 (by omega)
                have p100 : ¬ b.tk = 1 := by omega
                have q101 : (b.tk == 2) = false := beq_eq_false_iff_ne.2 (by omega)
                have p101 : ¬ b.tk = 2 := by omega
                have q102 : (b.tk == 3) = true := beq_iff_eq.2 (by omega)
                have p103 : b.day ≤ b.tn := by omega
                have q103 : decide (b.day ≤ b.tn) = true := decide_eq_true p103
                have p104 : 100000 < b.tn := by omega
                have q104 : decide (b.tn ≤ 100000) = false := decide_eq_false (by omega)
                have HT : Hid (termedB b = false) := by show _ = _; unfold termedB; rw [if_neg (by omega), if_neg (by omega), if_pos h]; rw [wi_no (show b.tn < b.day ∨ 100000 < b.tn by omega)]; rfl
                clear h
                go_wp2_with fail
                go_ret
                exact ⟨by rw [HT.out]; try rfl, B0.out⟩
            · have q105 : (b.tk == 0) = false := beq_eq_false_iff_ne.2 (by omega)
              have p105 : ¬ b.tk = 0 := by omega
              have q106 : (b.tk == 4) = false := beq_eq_false_iff_ne.2 (by omega)
              have p106 : ¬ b.tk = 4 := by omega
              have q107 : (b.tk == 1) = false := beq_eq_false_iff_ne.2 (by omega)
              have p107 : ¬ b.tk = 1 := by omega
              have q108 : (b.tk == 2) = false := beq_eq_false_iff_ne.2 (by omega)
              have p108 : ¬ b.tk = 2 := by omega
              have q109 : (b.tk == 3) = true := beq_iff_eq.2 (by omega)
              have p110 : b.tn < b.day := by omega
              have q110 : decide (b.day ≤ b.tn) = false := decide_eq_false (by omega)
              have HT : Hid (termedB b = false) := by show _ = _; unfold termedB; rw [if_neg (by omega), if_neg (by omega), if_pos h]; rw [wi_no (show b.tn < b.day ∨ 100000 < b.tn by omega)]; rfl
              clear h
              go_wp2_with fail
              go_ret
              exact ⟨by rw [HT.out]; try rfl, B0.out⟩
          · have q111 : (b.tk == 0) = false := beq_eq_false_iff_ne.2 (by omega)
            have p111 : ¬ b.tk = 0 := by omega
            have q112 : (b.tk == 4) = false := beq_eq_false_iff_ne.2 (by omega)
            have p112 : ¬ b.tk = 4 := by omega
            have q113 : (b.tk == 1) = false := beq_eq_false_iff_ne.2 (by omega)
            have p113 : ¬ b.tk = 1 := by omega
            have q114 : (b.tk == 2) = false := beq_eq_false_iff_ne.2 (by omega)
            have p114 : ¬ b.tk = 2 := by omega
            have q115 : (b.tk == 3) = false := beq_eq_false_iff_ne.2 (by omega)
            have p115 : ¬ b.tk = 3 := by omega
            have HT : Hid (termedB b = false) := by show _ = _; unfold termedB; rw [if_neg (by omega), if_neg (by omega), if_neg (by omega)]
            clear h
            go_wp2_with fail
            go_ret
            exact ⟨by rw [HT.out]; try rfl, B0.out⟩

theorem chkP {R : Rlm} {x : Bl} {e : Int} (h : e = checkP R) (h0 : ¬ e = 0) : checkW R x = e := by
  unfold checkW
  rw [← h, orE_ne h0]
theorem chkE {R : Rlm} {x : Bl} (hc : checkP R = 0) (h : placedB R x = true) (h2 : rangedB x = true) (h3 : wi x.parts 1 4 = true) (h4 : flaggedB x = true) (h5 : termedB x = true) : checkW R x = if x.tk = 4 then (usAt R x.city x.pay).2 else 0 := by
  unfold checkW
  rw [orE_zero hc, if_pos h, if_pos h2, if_pos h3, if_pos ⟨h4, h5⟩]

set_option maxHeartbeats 32000000 in
set_option maxRecDepth 100000 in
theorem RCheck_x {a0 a1 a2 a3 a4 a5 a6 a7 : Option Addr} {c0 c1 c2 c3 c4 c5 c6 c7 : Nat} {R : Rlm} (b : Bl) (w : World) (hr : RS w a0 a1 a2 a3 a4 a5 a6 a7 c0 c1 c2 c3 c4 c5 c6 c7 R) (hF : Fit R) : Calls Tryz.prog 13 #[.agg #[.slice a0 R.cur.length c0, .slice a1 R.cities.length c1, .slice a2 R.groups.length c2, .slice a3 R.firms.length c3, .slice a4 R.orders.length c4, .slice a5 R.usances.length c5, .slice a6 R.rates.length c6, .slice a7 R.halts.length c7], vB b] w fun r w' => r = .returned (.int .i64 (checkW R b)) ∧ Below w.heap.size w w' := by
  have HRS := Lib.hid hr
  have HFT := Lib.hid hF
  have B0 := Lib.hid (chain (Below.new1 (w := w) (.cells #[.slice a0 R.cur.length c0, .slice a1 R.cities.length c1, .slice a2 R.groups.length c2, .slice a3 R.firms.length c3, .slice a4 R.orders.length c4, .slice a5 R.usances.length c5, .slice a6 R.rates.length c6, .slice a7 R.halts.length c7] 31)) (Below.new1 (.cells #[.int .i64 b.drawer, .int .i64 b.drawee, .int .i64 b.payee, .int .i64 b.sum, .int .i64 b.cur, .int .i64 b.tk, .int .i64 b.tn, .int .i64 b.tu, .int .i64 b.day, .int .i64 b.city, .int .i64 b.pay, .int .i64 b.need, .int .i64 b.rate, .int .i64 b.flags, .int .i64 b.parts] 35)))
  have RB0 := Lib.hid ((RB.new w a0 a1 a2 a3 a4 a5 a6 a7 c0 c1 c2 c3 c4 c5 c6 c7 R).next (Below.new1 (.cells #[.int .i64 b.drawer, .int .i64 b.drawee, .int .i64 b.payee, .int .i64 b.sum, .int .i64 b.cur, .int .i64 b.tk, .int .i64 b.tn, .int .i64 b.tu, .int .i64 b.day, .int .i64 b.city, .int .i64 b.pay, .int .i64 b.need, .int .i64 b.rate, .int .i64 b.flags, .int .i64 b.parts] 35)))
  have X0 := Lib.hid (BB.new (w.alloc (.cells #[.slice a0 R.cur.length c0, .slice a1 R.cities.length c1, .slice a2 R.groups.length c2, .slice a3 R.firms.length c3, .slice a4 R.orders.length c4, .slice a5 R.usances.length c5, .slice a6 R.rates.length c6, .slice a7 R.halts.length c7] 31)) b (w.heap.size + 1) (by simp))
  clear hr hF
  have k0 := RB0.out.b0
  have k1 := RB0.out.b1
  have k2 := RB0.out.b2
  have k3 := RB0.out.b3
  have k4 := RB0.out.b4
  have k5 := RB0.out.b5
  have k6 := RB0.out.b6
  have k7 := RB0.out.b7
  go_enter Tryz.func13, Tryz.ntmps13
  go_wp2_with fail
  clear k0 k1 k2 k3 k4 k5 k6 k7
  refine (rCheck_x _ (HRS.out.next B0.out) HFT.out).mono ?_
  rintro r w1 ⟨rfl, cc⟩
  have B1 := Lib.hid (chain B0.out cc)
  have RB1 := Lib.hid (RB0.out.next cc)
  have X1 := Lib.hid (X0.out.next cc)
  clear cc
  obtain ⟨ec, hec⟩ : ∃ e : Int, e = checkP R := ⟨_, rfl⟩
  rw [← hec]
  have k0 := RB1.out.b0
  have k1 := RB1.out.b1
  have k2 := RB1.out.b2
  have k3 := RB1.out.b3
  have k4 := RB1.out.b4
  have k5 := RB1.out.b5
  have k6 := RB1.out.b6
  have k7 := RB1.out.b7
  have x0 := X1.out.at (i := 0) rfl
  have x1 := X1.out.at (i := 1) rfl
  have x2 := X1.out.at (i := 2) rfl
  have x3 := X1.out.at (i := 3) rfl
  have x4 := X1.out.at (i := 4) rfl
  have x5 := X1.out.at (i := 5) rfl
  have x6 := X1.out.at (i := 6) rfl
  have x7 := X1.out.at (i := 7) rfl
  have x8 := X1.out.at (i := 8) rfl
  have x9 := X1.out.at (i := 9) rfl
  have x10 := X1.out.at (i := 10) rfl
  have x11 := X1.out.at (i := 11) rfl
  have x12 := X1.out.at (i := 12) rfl
  have x13 := X1.out.at (i := 13) rfl
  have x14 := X1.out.at (i := 14) rfl
  by_cases hz : ec = 0
  · subst hz
    have h0 := Lib.hid hec.symm
    clear hec
    go_wp2_with fail
    refine (Rat_i b.drawer R.firms.length _).mono ?_
    rintro r wx ⟨rfl, rfl⟩
    cases g0 : ix b.drawer R.firms.length
    case false =>
      as_aux_lemma =>
        have HT := Lib.hid (chk1 (x := b) h0.out (by unfold placedB; rw [g0]; rfl))
        go_wp2_with fail
        go_ret
        exact ⟨by rw [HT.out]; try rfl, B1.out⟩
    case true =>
      go_wp2_with fail
      refine (Rat_i b.drawee R.firms.length _).mono ?_
      rintro r wx ⟨rfl, rfl⟩
      cases g1 : ix b.drawee R.firms.length
      case false =>
        as_aux_lemma =>
          have HT := Lib.hid (chk1 (x := b) h0.out (by unfold placedB; rw [g0, g1]; rfl))
          go_wp2_with fail
          go_ret
          exact ⟨by rw [HT.out]; try rfl, B1.out⟩
      case true =>
        go_wp2_with fail
        refine (Rnone_x b.payee R.firms.length _).mono ?_
        rintro r wx ⟨rfl, rfl⟩
        cases g2 : noneB b.payee R.firms.length
        case false =>
          as_aux_lemma =>
            have HT := Lib.hid (chk1 (x := b) h0.out (by unfold placedB; rw [g0, g1, g2]; rfl))
            go_wp2_with fail
            go_ret
            exact ⟨by rw [HT.out]; try rfl, B1.out⟩
        case true =>
          go_wp2_with fail
          refine (Rnone_x b.need R.firms.length _).mono ?_
          rintro r wx ⟨rfl, rfl⟩
          cases g3 : noneB b.need R.firms.length
          case false =>
            as_aux_lemma =>
              have HT := Lib.hid (chk1 (x := b) h0.out (by unfold placedB; rw [g0, g1, g2, g3]; rfl))
              go_wp2_with fail
              go_ret
              exact ⟨by rw [HT.out]; try rfl, B1.out⟩
          case true =>
            go_wp2_with fail
            refine (Rat_i b.cur R.cur.length _).mono ?_
            rintro r wx ⟨rfl, rfl⟩
            cases g4 : ix b.cur R.cur.length
            case false =>
              as_aux_lemma =>
                have HT := Lib.hid (chk1 (x := b) h0.out (by unfold placedB; rw [g0, g1, g2, g3, g4]; rfl))
                go_wp2_with fail
                go_ret
                exact ⟨by rw [HT.out]; try rfl, B1.out⟩
            case true =>
              go_wp2_with fail
              refine (Rat_i b.city R.cities.length _).mono ?_
              rintro r wx ⟨rfl, rfl⟩
              cases g5 : ix b.city R.cities.length
              case false =>
                as_aux_lemma =>
                  have HT := Lib.hid (chk1 (x := b) h0.out (by unfold placedB; rw [g0, g1, g2, g3, g4, g5]; rfl))
                  go_wp2_with fail
                  go_ret
                  exact ⟨by rw [HT.out]; try rfl, B1.out⟩
              case true =>
                go_wp2_with fail
                refine (Rat_i b.pay R.cities.length _).mono ?_
                rintro r wx ⟨rfl, rfl⟩
                cases g6 : ix b.pay R.cities.length
                case false =>
                  as_aux_lemma =>
                    have HT := Lib.hid (chk1 (x := b) h0.out (by unfold placedB; rw [g0, g1, g2, g3, g4, g5, g6]; rfl))
                    go_wp2_with fail
                    go_ret
                    exact ⟨by rw [HT.out]; try rfl, B1.out⟩
                case true =>
                  have hpl : Hid (placedB R b = true) := by show _ = _; unfold placedB; rw [g0, g1, g2, g3, g4, g5, g6]; rfl
                  clear g0 g1 g2 g3 g4 g5 g6
                  by_cases e0 : b.sum < 1
                  · have p135 : b.sum < 1 := by omega
                    have q135 : decide (b.sum < 1) = true := decide_eq_true p135
                    have HT := Lib.hid (chk3 (x := b) h0.out hpl.out (by unfold rangedB; rw [wi_no (n := b.sum) (.inl e0)]; simp))
                    go_wp2_with fail
                    go_ret
                    exact ⟨by rw [HT.out]; try rfl, B1.out⟩
                  · by_cases e1 : 1099511627776 < b.sum
                    · have p133 : 1 ≤ b.sum := by omega
                      have q133 : decide (b.sum < 1) = false := decide_eq_false (by omega)
                      have p134 : 1099511627776 < b.sum := by omega
                      have q134 : decide (1099511627776 < b.sum) = true := decide_eq_true p134
                      have HT := Lib.hid (chk3 (x := b) h0.out hpl.out (by unfold rangedB; rw [wi_no (n := b.sum) (.inr e1)]; simp))
                      go_wp2_with fail
                      go_ret
                      exact ⟨by rw [HT.out]; try rfl, B1.out⟩
                    · have p131 : 1 ≤ b.sum := by omega
                      have q131 : decide (b.sum < 1) = false := decide_eq_false (by omega)
                      have p132 : b.sum ≤ 1099511627776 := by omega
                      have q132 : decide (1099511627776 < b.sum) = false := decide_eq_false (by omega)
                      go_wp2_with fail
                      refine (Ca.Valid_x b.day _).mono ?_
                      rintro r wx ⟨rfl, rfl⟩
                      by_cases hd1 : 0 ≤ b.day
                      · by_cases hd2 : b.day ≤ 100000
                        · rw [Ca.valid_yes hd1 hd2]
                          by_cases e2 : b.rate < 0
                          · have p130 : b.rate < 0 := by omega
                            have q130 : decide (b.rate < 0) = true := decide_eq_true p130
                            have HT := Lib.hid (chk3 (x := b) h0.out hpl.out (by unfold rangedB; rw [wi_no (n := b.rate) (.inl e2)]; simp))
                            go_wp2_with fail
                            go_ret
                            exact ⟨by rw [HT.out]; try rfl, B1.out⟩
                          · by_cases e3 : 1000 < b.rate
                            · have p128 : 0 ≤ b.rate := by omega
                              have q128 : decide (b.rate < 0) = false := decide_eq_false (by omega)
                              have p129 : 1000 < b.rate := by omega
                              have q129 : decide (1000 < b.rate) = true := decide_eq_true p129
                              have HT := Lib.hid (chk3 (x := b) h0.out hpl.out (by unfold rangedB; rw [wi_no (n := b.rate) (.inr e3)]; simp))
                              go_wp2_with fail
                              go_ret
                              exact ⟨by rw [HT.out]; try rfl, B1.out⟩
                            · have p126 : 0 ≤ b.rate := by omega
                              have q126 : decide (b.rate < 0) = false := decide_eq_false (by omega)
                              have p127 : b.rate ≤ 1000 := by omega
                              have q127 : decide (1000 < b.rate) = false := decide_eq_false (by omega)
                              have hra : Hid (rangedB b = true) := by show _ = _; unfold rangedB; rw [wi_iff.2 ⟨by omega, by omega⟩, wi_iff.2 ⟨hd1, hd2⟩, wi_iff.2 ⟨by omega, by omega⟩]; rfl
                              by_cases e7 : b.parts < 1
                              · have p125 : b.parts < 1 := by omega
                                have q125 : decide (b.parts < 1) = true := decide_eq_true p125
                                have HT := Lib.hid (chk15 (x := b) h0.out hpl.out hra.out (wi_no (.inl e7)))
                                go_wp2_with fail
                                go_ret
                                exact ⟨by rw [HT.out]; try rfl, B1.out⟩
                              · by_cases e8 : 4 < b.parts
                                · have p123 : 1 ≤ b.parts := by omega
                                  have q123 : decide (b.parts < 1) = false := decide_eq_false (by omega)
                                  have p124 : 4 < b.parts := by omega
                                  have q124 : decide (4 < b.parts) = true := decide_eq_true p124
                                  have HT := Lib.hid (chk15 (x := b) h0.out hpl.out hra.out (wi_no (.inr e8)))
                                  go_wp2_with fail
                                  go_ret
                                  exact ⟨by rw [HT.out]; try rfl, B1.out⟩
                                · have p121 : 1 ≤ b.parts := by omega
                                  have q121 : decide (b.parts < 1) = false := decide_eq_false (by omega)
                                  have p122 : b.parts ≤ 4 := by omega
                                  have q122 : decide (4 < b.parts) = false := decide_eq_false (by omega)
                                  have hpa : Hid (wi b.parts 1 4 = true) := wi_iff.2 ⟨by omega, by omega⟩
                                  by_cases e5 : b.flags < 0
                                  · have p120 : b.flags < 0 := by omega
                                    have q120 : decide (b.flags < 0) = true := decide_eq_true p120
                                    have HT := Lib.hid (chk2 (x := b) h0.out hpl.out hra.out hpa.out (.inl (by unfold flaggedB; rw [wi_no (.inl e5)]; rfl)))
                                    go_wp2_with fail
                                    go_ret
                                    exact ⟨by rw [HT.out]; try rfl, B1.out⟩
                                  · by_cases e6 : 7 < b.flags
                                    · have p118 : 0 ≤ b.flags := by omega
                                      have q118 : decide (b.flags < 0) = false := decide_eq_false (by omega)
                                      have p119 : 7 < b.flags := by omega
                                      have q119 : decide (7 < b.flags) = true := decide_eq_true p119
                                      have HT := Lib.hid (chk2 (x := b) h0.out hpl.out hra.out hpa.out (.inl (by unfold flaggedB; rw [wi_no (.inr e6)]; rfl)))
                                      go_wp2_with fail
                                      go_ret
                                      exact ⟨by rw [HT.out]; try rfl, B1.out⟩
                                    · have p116 : 0 ≤ b.flags := by omega
                                      have q116 : decide (b.flags < 0) = false := decide_eq_false (by omega)
                                      have p117 : b.flags ≤ 7 := by omega
                                      have q117 : decide (7 < b.flags) = false := decide_eq_false (by omega)
                                      by_cases ep : b.payee = -1
                                      · as_aux_lemma =>
                                          have qp : (b.payee == -1) = true := beq_iff_eq.2 ep
                                          have hbb := (bit_and (f := b.flags) (by omega) (by omega)).2.2
                                          cases qb : bit b.flags 4
                                          case false =>
                                            rw [qb] at hbb
                                            have hfl : Hid (flaggedB b = true) := by show _ = _; unfold flaggedB; rw [wi_iff.2 ⟨by omega, by omega⟩, qb, Bool.and_false]; rfl
                                            clear ep qb
                                            go_wp2_with fail
                                            refine (RTenor_x b _).mono ?_
                                            rintro r w2 ⟨rfl, cc⟩
                                            replace RB1 := Lib.hid (RB1.out.next cc)
                                            replace X1 := Lib.hid (X1.out.next cc)
                                            replace B1 := Lib.hid (chain B1.out cc)
                                            clear cc
                                            clear k0 k1 k2 k3 k4 k5 k6 k7 x0 x1 x2 x3 x4 x5 x6 x7 x8 x9 x10 x11 x12 x13 x14
                                            have k0 := RB1.out.b0
                                            have k1 := RB1.out.b1
                                            have k2 := RB1.out.b2
                                            have k3 := RB1.out.b3
                                            have k4 := RB1.out.b4
                                            have k5 := RB1.out.b5
                                            have k6 := RB1.out.b6
                                            have k7 := RB1.out.b7
                                            have x0 := X1.out.at (i := 0) rfl
                                            have x1 := X1.out.at (i := 1) rfl
                                            have x2 := X1.out.at (i := 2) rfl
                                            have x3 := X1.out.at (i := 3) rfl
                                            have x4 := X1.out.at (i := 4) rfl
                                            have x5 := X1.out.at (i := 5) rfl
                                            have x6 := X1.out.at (i := 6) rfl
                                            have x7 := X1.out.at (i := 7) rfl
                                            have x8 := X1.out.at (i := 8) rfl
                                            have x9 := X1.out.at (i := 9) rfl
                                            have x10 := X1.out.at (i := 10) rfl
                                            have x11 := X1.out.at (i := 11) rfl
                                            have x12 := X1.out.at (i := 12) rfl
                                            have x13 := X1.out.at (i := 13) rfl
                                            have x14 := X1.out.at (i := 14) rfl
                                            cases hte : termedB b
                                            case false =>
                                              have HT := Lib.hid (chk2 (x := b) h0.out hpl.out hra.out hpa.out (.inr hte))
                                              go_wp2_with fail
                                              go_ret
                                              exact ⟨by rw [HT.out]; try rfl, B1.out⟩
                                            case true =>
                                              replace hte := Lib.hid hte
                                              by_cases e4 : b.tk = 4
                                              · have h4 : b.tk = 4 := e4
                                                have HT : Hid (checkW R b = (usAt R b.city b.pay).2) := by show _ = _; rw [chkE h0.out hpl.out hra.out hpa.out hfl.out hte.out, if_pos h4]
                                                have qk : (b.tk == 4) = true := beq_iff_eq.2 h4
                                                have qk2 : (b.tk != 4) = false := by rw [bne, qk]; rfl
                                                clear h4 e4
                                                go_wp2_with fail
                                                refine (rUsance_x b.city b.pay _ (HRS.out.next B1.out) HFT.out).mono ?_
                                                rintro r w2 ⟨rfl, cc⟩
                                                have B2 := Lib.hid (chain B1.out cc)
                                                clear cc
                                                go_wp2_with fail
                                                go_ret
                                                exact ⟨by rw [HT.out]; try rfl, B2.out⟩
                                              · have HT : Hid (checkW R b = 0) := by show _ = _; rw [chkE h0.out hpl.out hra.out hpa.out hfl.out hte.out, if_neg e4]
                                                have qk : (b.tk == 4) = false := beq_eq_false_iff_ne.2 e4
                                                have qk2 : (b.tk != 4) = true := by rw [bne, qk]; rfl
                                                go_wp2_with fail
                                                go_ret
                                                exact ⟨by rw [HT.out]; try rfl, B1.out⟩
                                          case true =>
                                            rw [qb] at hbb
                                            have hfl : Hid (flaggedB b = false) := by show _ = _; unfold flaggedB; rw [wi_iff.2 ⟨by omega, by omega⟩, qb, decide_eq_true ep]; rfl
                                            clear ep qb
                                            have HT := Lib.hid (chk2 (x := b) h0.out hpl.out hra.out hpa.out (.inl hfl.out))
                                            go_wp2_with fail
                                            go_ret
                                            exact ⟨by rw [HT.out]; try rfl, B1.out⟩
                                      · as_aux_lemma =>
                                          have hfl : Hid (flaggedB b = true) := by show _ = _; unfold flaggedB; rw [wi_iff.2 ⟨by omega, by omega⟩, decide_eq_false ep]; rfl
                                          have qp : (b.payee == -1) = false := beq_eq_false_iff_ne.2 ep
                                          go_wp2_with fail
                                          refine (RTenor_x b _).mono ?_
                                          rintro r w2 ⟨rfl, cc⟩
                                          replace RB1 := Lib.hid (RB1.out.next cc)
                                          replace X1 := Lib.hid (X1.out.next cc)
                                          replace B1 := Lib.hid (chain B1.out cc)
                                          clear cc
                                          clear k0 k1 k2 k3 k4 k5 k6 k7 x0 x1 x2 x3 x4 x5 x6 x7 x8 x9 x10 x11 x12 x13 x14
                                          have k0 := RB1.out.b0
                                          have k1 := RB1.out.b1
                                          have k2 := RB1.out.b2
                                          have k3 := RB1.out.b3
                                          have k4 := RB1.out.b4
                                          have k5 := RB1.out.b5
                                          have k6 := RB1.out.b6
                                          have k7 := RB1.out.b7
                                          have x0 := X1.out.at (i := 0) rfl
                                          have x1 := X1.out.at (i := 1) rfl
                                          have x2 := X1.out.at (i := 2) rfl
                                          have x3 := X1.out.at (i := 3) rfl
                                          have x4 := X1.out.at (i := 4) rfl
                                          have x5 := X1.out.at (i := 5) rfl
                                          have x6 := X1.out.at (i := 6) rfl
                                          have x7 := X1.out.at (i := 7) rfl
                                          have x8 := X1.out.at (i := 8) rfl
                                          have x9 := X1.out.at (i := 9) rfl
                                          have x10 := X1.out.at (i := 10) rfl
                                          have x11 := X1.out.at (i := 11) rfl
                                          have x12 := X1.out.at (i := 12) rfl
                                          have x13 := X1.out.at (i := 13) rfl
                                          have x14 := X1.out.at (i := 14) rfl
                                          cases hte : termedB b
                                          case false =>
                                            have HT := Lib.hid (chk2 (x := b) h0.out hpl.out hra.out hpa.out (.inr hte))
                                            go_wp2_with fail
                                            go_ret
                                            exact ⟨by rw [HT.out]; try rfl, B1.out⟩
                                          case true =>
                                            replace hte := Lib.hid hte
                                            by_cases e4 : b.tk = 4
                                            · have h4 : b.tk = 4 := e4
                                              have HT : Hid (checkW R b = (usAt R b.city b.pay).2) := by show _ = _; rw [chkE h0.out hpl.out hra.out hpa.out hfl.out hte.out, if_pos h4]
                                              have qk : (b.tk == 4) = true := beq_iff_eq.2 h4
                                              have qk2 : (b.tk != 4) = false := by rw [bne, qk]; rfl
                                              clear h4 e4
                                              go_wp2_with fail
                                              refine (rUsance_x b.city b.pay _ (HRS.out.next B1.out) HFT.out).mono ?_
                                              rintro r w2 ⟨rfl, cc⟩
                                              have B2 := Lib.hid (chain B1.out cc)
                                              clear cc
                                              go_wp2_with fail
                                              go_ret
                                              exact ⟨by rw [HT.out]; try rfl, B2.out⟩
                                            · have HT : Hid (checkW R b = 0) := by show _ = _; rw [chkE h0.out hpl.out hra.out hpa.out hfl.out hte.out, if_neg e4]
                                              have qk : (b.tk == 4) = false := beq_eq_false_iff_ne.2 e4
                                              have qk2 : (b.tk != 4) = true := by rw [bne, qk]; rfl
                                              go_wp2_with fail
                                              go_ret
                                              exact ⟨by rw [HT.out]; try rfl, B1.out⟩
                        · rw [Ca.valid_no (by omega)]
                          have HT := Lib.hid (chk3 (x := b) h0.out hpl.out (by unfold rangedB; rw [wi_no (n := b.day) (show b.day < 0 ∨ 100000 < b.day by omega)]; simp))
                          go_wp2_with fail
                          go_ret
                          exact ⟨by rw [HT.out]; try rfl, B1.out⟩
                      · rw [Ca.valid_no (by omega)]
                        have HT := Lib.hid (chk3 (x := b) h0.out hpl.out (by unfold rangedB; rw [wi_no (n := b.day) (show b.day < 0 ∨ 100000 < b.day by omega)]; simp))
                        go_wp2_with fail
                        go_ret
                        exact ⟨by rw [HT.out]; try rfl, B1.out⟩
  · have HT := Lib.hid (chkP (x := b) hec hz)
    clear hec
    go_wp2_with fail
    go_ret
    exact ⟨by rw [HT.out]; try rfl, B1.out⟩
end Go.Proofs.YtcjakgpmompaiaaGreatDoor
