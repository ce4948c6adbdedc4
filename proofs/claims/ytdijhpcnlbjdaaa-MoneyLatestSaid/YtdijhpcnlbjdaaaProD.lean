/-
  The program's Convert, and monOk: the three contracts that the laws ask.
-/
import Derived.Test.YtdijhpcnlbjdaaaProC
import Derived.Test.YtdijhpcnlbjdaaaLawA
namespace Go.Proofs.Ytdijhpcnlbjdaaa
open Go.RowKit Mon

theorem rates_ok {l : List R} (h : ratesB l = true) : l.length ≤ 100 ∧ l.all okR = true := by
  unfold ratesB at h
  rw [Bool.and_eq_true] at h
  exact ⟨of_decide_eq_true h.1, h.2⟩
theorem rates_no {l : List R} (h : ratesB l = false) : ¬ (l.length ≤ 100 ∧ l.all okR = true) := by
  rintro ⟨h1, h2⟩
  unfold ratesB at h
  rw [h2, decide_eq_true h1] at h
  cases h

set_option maxHeartbeats 6400000 in
theorem pConvert_x (v : Value) (l : List R) (s f t on : Int) (w : World) (hat : RAt w v l) (hl : l.length ≤ 1099511627776) :
    Calls Try.prog 13 #[v, .int .i64 s, .int .i64 f, .int .i64 t, .int .i64 on] w fun e w' => e = .returned (pv (conv l s f t on)) ∧ Below w.heap.size w w' := by
  have HA := Lib.hid (areRates_x v l w hat hl)
  have HO := Lib.hid (fun (f t : Int) (w' : World) (h : Below w.heap.size w w') => rateOf_x v l f t on w' (hat.below h (Nat.le_refl _)) hl)
  obtain ⟨a, cap, rfl, -, -⟩ := hat
  obtain ⟨rb, hrb⟩ : ∃ rb, ratesB l = rb := ⟨_, rfl⟩
  have A : Hid (ratesB l = rb) := hrb
  cases rb with
  | false =>
    have hv : Hid (conv l s f t on = (0, 1)) := conv_bad (fun h => rates_no hrb ⟨h.1, h.2.2.2⟩)
    clear hrb
    go_enter Try.func13, Try.ntmps13
    go_wp2_with fail
    refine HA.out.mono ?_
    rintro e w1 ⟨rfl, b1⟩
    rw [A.out]
    go_wp2_with fail
    go_ret2
    exact ⟨by rw [hv.out]; try rfl, b1⟩
  | true =>
    have hok := rates_ok hrb
    clear hrb
    by_cases hs : sumP s
    case neg =>
      have S : Hid (sumB s = false) := decide_eq_false hs
      have hv : Hid (conv l s f t on = (0, 1)) := conv_bad (fun h => hs h.2.1)
      clear hs hok
      go_enter Try.func13, Try.ntmps13
      go_wp2_with fail
      refine HA.out.mono ?_
      rintro e w1 ⟨rfl, b1⟩
      rw [A.out]
      go_wp2_with fail
      refine (isSum_x s _).mono ?_
      rintro e w2 ⟨rfl, rfl⟩
      rw [S.out]
      go_wp2_with fail
      go_ret2
      exact ⟨by rw [hv.out]; try rfl, b1⟩
    have S : Hid (sumB s = true) := decide_eq_true hs
    by_cases ho : dayP on
    case neg =>
      have O : Hid (dayB on = false) := decide_eq_false ho
      have hv : Hid (conv l s f t on = (0, 1)) := conv_bad (fun h => ho h.2.2.1)
      clear hs ho hok
      go_enter Try.func13, Try.ntmps13
      go_wp2_with fail
      refine HA.out.mono ?_
      rintro e w1 ⟨rfl, b1⟩
      rw [A.out]
      go_wp2_with fail
      refine (isSum_x s _).mono ?_
      rintro e w2 ⟨rfl, rfl⟩
      rw [S.out]
      go_wp2_with fail
      refine (isDay_x on _).mono ?_
      rintro e w2 ⟨rfl, rfl⟩
      rw [O.out]
      go_wp2_with fail
      go_ret2
      exact ⟨by rw [hv.out]; try rfl, b1⟩
    have O : Hid (dayB on = true) := decide_eq_true ho
    have hcv : conv l s f t on = if f = t then (s, 0) else match pick l f t on with
      | some r => val s r.n r.d
      | none => match pick l t f on with
        | some r => val s r.d r.n
        | none => (0, 4) := if_pos ⟨hok.1, hs, ho, hok.2⟩
    have Hok := Lib.hid hok.2
    clear hok
    by_cases ft : f = t
    · have hv : Hid (conv l s f t on = (s, 0)) := by show _ = _; rw [hcv, if_pos ft]
      have ft1 : (f == t) = true := by simp [ft]
      clear hcv ft hs ho
      go_enter Try.func13, Try.ntmps13
      go_wp2_with fail
      refine HA.out.mono ?_
      rintro e w1 ⟨rfl, b1⟩
      rw [A.out]
      go_wp2_with fail
      refine (isSum_x s _).mono ?_
      rintro e w2 ⟨rfl, rfl⟩
      rw [S.out]
      go_wp2_with fail
      refine (isDay_x on _).mono ?_
      rintro e w2 ⟨rfl, rfl⟩
      rw [O.out]
      go_wp2_with fail
      go_ret2
      exact ⟨by rw [hv.out]; try rfl, b1⟩
    rw [if_neg ft] at hcv
    have ft1 : (f == t) = false := by simp [ft]
    clear ft
    obtain ⟨po, hp⟩ : ∃ po, pick l f t on = po := ⟨_, rfl⟩
    obtain ⟨qo, hq⟩ : ∃ qo, pick l t f on = qo := ⟨_, rfl⟩
    rw [hp, hq] at hcv
    have Hp := Lib.hid hp
    have Hq := Lib.hid hq
    clear hp hq
    cases po with
    | some r =>
      simp only at hcv
      have ok : okR r = true := List.all_eq_true.1 Hok.out r (pick_mem Hp.out).1
      obtain ⟨h1, h2⟩ := of_decide_eq_true ok
      obtain ⟨x1, wh, x2, hx, hc⟩ := scaleI_x s r.n r.d hs ⟨by omega, by omega⟩ ⟨by omega, by omega⟩
      have hv : Hid (conv l s f t on = (x1, x2)) := by show _ = _; rw [hcv]; exact hx.is
      have HC := Lib.hid hc
      clear hcv hx hc ok h1 h2 hs ho
      go_enter Try.func13, Try.ntmps13
      go_wp2_with fail
      refine HA.out.mono ?_
      rintro e w1 ⟨rfl, b1⟩
      rw [A.out]
      go_wp2_with fail
      refine (isSum_x s _).mono ?_
      rintro e w2 ⟨rfl, rfl⟩
      rw [S.out]
      go_wp2_with fail
      refine (isDay_x on _).mono ?_
      rintro e w2 ⟨rfl, rfl⟩
      rw [O.out]
      go_wp2_with fail
      refine (HO.out f t _ b1).mono ?_
      rintro e w3 ⟨rfl, b3⟩
      rw [Hp.out]
      simp only [rateV]
      have b4 := chain b1 b3
      clear b3
      go_wp2_with fail
      refine (HC.out _).mono ?_
      rintro e w5 ⟨rfl, b5⟩
      have b6 := chain b4 b5
      clear b5
      go_wp2_with fail
      go_ret2
      exact ⟨by rw [hv.out]; try rfl, b6⟩
    | none =>
      simp only at hcv
      cases qo with
      | some r =>
        simp only at hcv
        have ok : okR r = true := List.all_eq_true.1 Hok.out r (pick_mem Hq.out).1
        obtain ⟨h1, h2⟩ := of_decide_eq_true ok
        obtain ⟨x1, wh, x2, hx, hc⟩ := scaleI_x s r.d r.n hs ⟨by omega, by omega⟩ ⟨by omega, by omega⟩
        have hv : Hid (conv l s f t on = (x1, x2)) := by show _ = _; rw [hcv]; exact hx.is
        have HC := Lib.hid hc
        clear hcv hx hc ok h1 h2 hs ho
        go_enter Try.func13, Try.ntmps13
        go_wp2_with fail
        refine HA.out.mono ?_
        rintro e w1 ⟨rfl, b1⟩
        rw [A.out]
        go_wp2_with fail
        refine (isSum_x s _).mono ?_
        rintro e w2 ⟨rfl, rfl⟩
        rw [S.out]
        go_wp2_with fail
        refine (isDay_x on _).mono ?_
        rintro e w2 ⟨rfl, rfl⟩
        rw [O.out]
        go_wp2_with fail
        refine (HO.out f t _ b1).mono ?_
        rintro e w3 ⟨rfl, b3⟩
        rw [Hp.out]
        simp only [rateV]
        have b4 := chain b1 b3
        clear b3
        go_wp2_with fail
        refine (HO.out t f _ b4).mono ?_
        rintro e w3 ⟨rfl, b3⟩
        rw [Hq.out]
        simp only [rateV]
        have b5 := chain b4 b3
        clear b3
        go_wp2_with fail
        refine (HC.out _).mono ?_
        rintro e w5 ⟨rfl, b3⟩
        have b6 := chain b5 b3
        clear b3
        go_wp2_with fail
        go_ret2
        exact ⟨by rw [hv.out]; try rfl, b6⟩
      | none =>
        have hv : Hid (conv l s f t on = (0, 4)) := hcv
        clear hcv hs ho
        go_enter Try.func13, Try.ntmps13
        go_wp2_with fail
        refine HA.out.mono ?_
        rintro e w1 ⟨rfl, b1⟩
        rw [A.out]
        go_wp2_with fail
        refine (isSum_x s _).mono ?_
        rintro e w2 ⟨rfl, rfl⟩
        rw [S.out]
        go_wp2_with fail
        refine (isDay_x on _).mono ?_
        rintro e w2 ⟨rfl, rfl⟩
        rw [O.out]
        go_wp2_with fail
        refine (HO.out f t _ b1).mono ?_
        rintro e w3 ⟨rfl, b3⟩
        rw [Hp.out]
        simp only [rateV]
        have b4 := chain b1 b3
        clear b3
        go_wp2_with fail
        refine (HO.out t f _ b4).mono ?_
        rintro e w3 ⟨rfl, b3⟩
        rw [Hq.out]
        simp only [rateV]
        have b5 := chain b4 b3
        clear b3
        go_wp2_with fail
        go_ret2
        exact ⟨by rw [hv.out]; try rfl, b5⟩

/-- THE PROGRAM's CONTRACTS HOLD. -/
theorem monOk : MonOk where
  int := fun s p f t b w _ _ _ _ _ => pInterest_x s p f t b w
  dis := fun s p n w _ _ _ => pDiscount_x s p n w
  conv := fun v l s f t on w hat hl _ _ _ _ _ => pConvert_x v l s f t on w hat hl

end Go.Proofs.Ytdijhpcnlbjdaaa
