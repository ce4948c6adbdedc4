/-
  The reference's Convert.
-/
import Derived.Test.YtdijhpcnlbjdaaaRefC
namespace Go.Proofs.Ytdijhpcnlbjdaaa
open Go.RowKit Mon

def CRel (l : List R) (w : World) (i : Value) (wr : World) : Prop := ∃ k : Nat, k ≤ l.length ∧ i = .int .i64 (k : Int) ∧ (l.take k).all okR = true ∧ w = wr
theorem all_next {l : List R} {k : Nat} {r : R} (h : l[k]? = some r) (ha : (l.take k).all okR = true) (hr : okR r = true) : (l.take (k + 1)).all okR = true := by
  rw [List.take_add_one, h, List.all_append, ha]
  show (true && ([r].all okR)) = true
  simp [hr]
theorem all_not {l : List R} {k : Nat} {r : R} (h : l[k]? = some r) (hr : okR r = false) : l.all okR = false := by
  rw [← Bool.not_eq_true, List.all_eq_true]
  intro ha
  have := ha r (List.mem_of_getElem? h)
  rw [hr] at this
  cases this
theorem conv_bad {l : List R} {s f t on : Int} (h : ¬ (l.length ≤ 100 ∧ sumP s ∧ dayP on ∧ l.all okR = true)) : conv l s f t on = (0, 1) := if_neg h
/-- an index, if there is one -/
theorem at_none {l : List R} {n : Int} (h : At l none n) : n = -1 := by
  rcases h with ⟨-, h⟩ | ⟨_, _, _, h, _⟩
  · exact h
  · cases h
theorem at_some {l : List R} {r : R} {n : Int} (h : At l (some r) n) : ∃ j : Nat, n = j ∧ l[j]? = some r := by
  rcases h with ⟨h, -⟩ | ⟨j, q, h1, h2, h3⟩
  · cases h
  · cases h2
    exact ⟨j, h1, h3⟩

set_option maxHeartbeats 6400000 in
theorem Convert_x (v : Value) (l : List R) (s f t on : Int) (w : World) (hat : RAt w v l) (hl : l.length ≤ 1099511627776) :
    Calls Try.prog 14 #[v, .int .i64 s, .int .i64 f, .int .i64 t, .int .i64 on] w fun e w' => e = .returned (pv (conv l s f t on)) ∧ Below w.heap.size w w' := by
  have HAT := Lib.hid hat
  obtain ⟨a, cap, rfl, -, hc⟩ := hat
  have HC := Lib.hid hc
  clear hc
  by_cases h100 : 100 < l.length
  · have hv : Hid (conv l s f t on = (0, 1)) := conv_bad (by omega)
    go_enter Try.func14, Try.ntmps14
    go_wp2_with fail
    go_ret2
    exact ⟨by rw [hv.out]; try rfl, Below.refl _ _⟩
  by_cases hs : sumP s
  case neg =>
    have S : Hid (sumB s = false) := decide_eq_false hs
    have hv : Hid (conv l s f t on = (0, 1)) := conv_bad (by omega)
    clear hs
    go_enter Try.func14, Try.ntmps14
    go_wp2_with fail
    refine (sum_x s _).mono ?_
    rintro e w1 ⟨rfl, rfl⟩
    rw [S.out]
    go_wp2_with fail
    go_ret2
    exact ⟨by rw [hv.out]; try rfl, Below.refl _ _⟩
  have S : Hid (sumB s = true) := decide_eq_true hs
  by_cases ho : dayP on
  case neg =>
    have O : Hid (dayB on = false) := decide_eq_false ho
    have hv : Hid (conv l s f t on = (0, 1)) := conv_bad (by omega)
    clear hs ho
    go_enter Try.func14, Try.ntmps14
    go_wp2_with fail
    refine (sum_x s _).mono ?_
    rintro e w1 ⟨rfl, rfl⟩
    rw [S.out]
    go_wp2_with fail
    refine (day_x on _).mono ?_
    rintro e w1 ⟨rfl, rfl⟩
    rw [O.out]
    go_wp2_with fail
    go_ret2
    exact ⟨by rw [hv.out]; try rfl, Below.refl _ _⟩
  have O : Hid (dayB on = true) := decide_eq_true ho
  go_enter Try.func14, Try.ntmps14
  go_wp2_with fail
  refine (sum_x s _).mono ?_
  rintro e w1 ⟨rfl, rfl⟩
  rw [S.out]
  go_wp2_with fail
  refine (day_x on _).mono ?_
  rintro e w1 ⟨rfl, rfl⟩
  rw [O.out]
  go_wp2_with fail
  go_loopw [12] (fun i wr => CRel l w i wr) (fun i _ => l.length - (intOf i).toNat)
  case atStart => exact ⟨0, Nat.zero_le _, rfl, by simp, rfl⟩
  case round =>
    obtain ⟨k, hk, rfl, hall, rfl⟩ := hrel
    have Ha := Lib.hid hall
    clear hall
    have k0 : (0 : Int) ≤ (k : Int) := by omega
    by_cases c : k < l.length
    case pos =>
      obtain ⟨r, hr⟩ : ∃ r, l[k]? = some r := ⟨l[k], List.getElem?_eq_getElem c⟩
      obtain ⟨b, off, rfl, hb, p0, p1, p2, p3, p4⟩ := HC.out k r hr
      have c0 : (k : Int) < (l.length : Int) := by omega
      have Hr := Lib.hid hr
      clear hr p0 p1 p4
      by_cases e1 : r.n < 1
      · have hv : Hid (conv l s f t on = (0, 1)) := conv_bad (fun h => by have := all_not Hr.out (decide_eq_false (by omega)); rw [this] at h; exact Bool.false_ne_true h.2.2.2)
        go_wp2_with fail
        go_ret2
        exact ⟨by rw [hv.out]; try rfl, Below.refl _ _⟩
      by_cases e2 : 1073741824 < r.n
      · have hv : Hid (conv l s f t on = (0, 1)) := conv_bad (fun h => by have := all_not Hr.out (decide_eq_false (by omega)); rw [this] at h; exact Bool.false_ne_true h.2.2.2)
        go_wp2_with fail
        go_ret2
        exact ⟨by rw [hv.out]; try rfl, Below.refl _ _⟩
      by_cases e3 : r.d < 1
      · have hv : Hid (conv l s f t on = (0, 1)) := conv_bad (fun h => by have := all_not Hr.out (decide_eq_false (by omega)); rw [this] at h; exact Bool.false_ne_true h.2.2.2)
        go_wp2_with fail
        go_ret2
        exact ⟨by rw [hv.out]; try rfl, Below.refl _ _⟩
      by_cases e4 : 1073741824 < r.d
      · have hv : Hid (conv l s f t on = (0, 1)) := conv_bad (fun h => by have := all_not Hr.out (decide_eq_false (by omega)); rw [this] at h; exact Bool.false_ne_true h.2.2.2)
        go_wp2_with fail
        go_ret2
        exact ⟨by rw [hv.out]; try rfl, Below.refl _ _⟩
      have Hn : Hid ((l.take (k + 1)).all okR = true) := all_next Hr.out Ha.out (decide_eq_true ⟨⟨by omega, by omega⟩, by omega, by omega⟩)
      go_wp2_with fail
      go_roundw
      case rel => exact ⟨k + 1, by omega, by congr 1, Hn.out, rfl⟩
      case measure => simp [intOf]; omega
    case neg =>
      have c0 : ¬ (k : Int) < (l.length : Int) := by omega
      have hok : l.all okR = true := by
        have h := Ha.out
        rw [List.take_of_length_le (by omega)] at h
        exact h
      have hcv : conv l s f t on = if f = t then (s, 0) else match pick l f t on with
        | some r => val s r.n r.d
        | none => match pick l t f on with
          | some r => val s r.d r.n
          | none => (0, 4) := if_pos ⟨by omega, hs, ho, hok⟩
      have Hok := Lib.hid hok
      clear hok
      by_cases ft : f = t
      · have hv : Hid (conv l s f t on = (s, 0)) := by show _ = _; rw [hcv, if_pos ft]
        have ft1 : (f == t) = true := by simp [ft]
        clear hcv ft
        go_wp2_with fail
        go_ret2
        exact ⟨by rw [hv.out]; try rfl, Below.refl _ _⟩
      rw [if_neg ft] at hcv
      have ft1 : (f == t) = false := by simp [ft]
      clear ft
      obtain ⟨po, hp⟩ : ∃ po, pick l f t on = po := ⟨_, rfl⟩
      obtain ⟨qo, hq⟩ : ∃ qo, pick l t f on = qo := ⟨_, rfl⟩
      rw [hp, hq] at hcv
      have Hp := Lib.hid hp
      have Hq := Lib.hid hq
      clear hp hq
      go_wp2_with fail
      refine (Find_x _ l f t on _ HAT.out hl).mono ?_
      rintro e w1 ⟨n, rfl, hn, hw1⟩
      have b1 : Below w.heap.size w w1 := by obtain ⟨m, rfl⟩ := hw1; exact below_drewN (Below.refl _ _) m
      clear hw1
      rw [Hp.out] at hn
      cases po with
      | some r =>
        simp only at hcv
        obtain ⟨j, rfl, hj⟩ := at_some hn
        obtain ⟨b, off, rfl, hb, -, -, p2, p3, -⟩ := HC.out j r hj
        have jl : j < l.length := (List.getElem?_eq_some_iff.1 hj).1
        have j0 : (0 : Int) ≤ (j : Int) := by omega
        have j1 : (j : Int) < (l.length : Int) := by omega
        have ok : okR r = true := List.all_eq_true.1 Hok.out r (List.mem_of_getElem? hj)
        obtain ⟨h1, h2⟩ := of_decide_eq_true ok
        have q2 := (b1.cell (p := ⟨b, off + j * 5 + 2, none⟩) hb).trans p2
        have q3 := (b1.cell (p := ⟨b, off + j * 5 + 3, none⟩) hb).trans p3
        clear hn hj jl ok HC p2 p3
        obtain ⟨x1, x2, hx⟩ : ∃ x1 x2, val s r.n r.d = (x1, x2) := ⟨_, _, rfl⟩
        have hv : Hid (conv l s f t on = (x1, x2)) := by show _ = _; rw [hcv, hx]
        have HV : Hid (∀ u : World, Calls Try.prog 25 #[.int .i64 s, .int .i64 r.n, .int .i64 r.d] u fun e w' => e = .returned (.tuple #[.int .i64 x1, .int .i64 x2]) ∧ ∃ q, w' = u.drewN q) := fun u => by
          have h := value_x s r.n r.d u hs h1 h2
          rw [hx] at h
          exact h
        clear hcv hx h1 h2 hs ho
        go_wp2_with fail
        go_quiet (first | (go_at_call 25; refine Calls.quiet_of (HV.out _)))
        go_wp2_with fail
        go_ret2
        exact ⟨by rw [hv.out]; try rfl, by repeat (first | exact b2 | exact b1 | refine below_drewN ?_ _)⟩
      | none =>
        obtain rfl := at_none hn
        clear hn
        simp only at hcv
        go_wp2_with fail
        refine (Find_x _ l t f on _ (HAT.out.below b1 (Nat.le_refl _)) hl).mono ?_
        rintro e w2 ⟨n, rfl, hn, hw2⟩
        have b2 : Below w.heap.size w w2 := by obtain ⟨m, rfl⟩ := hw2; exact below_drewN b1 m
        clear hw2
        rw [Hq.out] at hn
        cases qo with
        | some r =>
          simp only at hcv
          obtain ⟨j, rfl, hj⟩ := at_some hn
          obtain ⟨b, off, rfl, hb, -, -, p2, p3, -⟩ := HC.out j r hj
          have jl : j < l.length := (List.getElem?_eq_some_iff.1 hj).1
          have j0 : (0 : Int) ≤ (j : Int) := by omega
          have j1 : (j : Int) < (l.length : Int) := by omega
          have ok : okR r = true := List.all_eq_true.1 Hok.out r (List.mem_of_getElem? hj)
          obtain ⟨h1, h2⟩ := of_decide_eq_true ok
          have q2 := (b2.cell (p := ⟨b, off + j * 5 + 2, none⟩) hb).trans p2
          have q3 := (b2.cell (p := ⟨b, off + j * 5 + 3, none⟩) hb).trans p3
          clear hn hj jl ok HC p2 p3
          obtain ⟨x1, x2, hx⟩ : ∃ x1 x2, val s r.d r.n = (x1, x2) := ⟨_, _, rfl⟩
          have hv : Hid (conv l s f t on = (x1, x2)) := by show _ = _; rw [hcv, hx]
          have HV : Hid (∀ u : World, Calls Try.prog 25 #[.int .i64 s, .int .i64 r.d, .int .i64 r.n] u fun e w' => e = .returned (.tuple #[.int .i64 x1, .int .i64 x2]) ∧ ∃ q, w' = u.drewN q) := fun u => by
            have h := value_x s r.d r.n u hs h2 h1
            rw [hx] at h
            exact h
          clear hcv hx h1 h2 hs ho
          go_wp2_with fail
          go_quiet (first | (go_at_call 25; refine Calls.quiet_of (HV.out _)))
          go_wp2_with fail
          go_ret2
          exact ⟨by rw [hv.out]; try rfl, by repeat (first | exact b2 | exact b1 | refine below_drewN ?_ _)⟩
        | none =>
          have hv : Hid (conv l s f t on = (0, 4)) := hcv
          obtain rfl := at_none hn
          clear hn hcv
          go_wp2_with fail
          go_ret2
          exact ⟨by rw [hv.out]; try rfl, by repeat (first | exact b2 | exact b1 | refine below_drewN ?_ _)⟩

end Go.Proofs.Ytdijhpcnlbjdaaa
