/-
  The reference writes: numbers, dates, tenors, the other parts.
-/
import Derived.Test.YtcjakgpmompaiaaGreatDoorRrE
import Derived.Test.YtcjakgpmompaiaaGreatDoorWiMath
import Derived.Test.YtcjakgpmompaiaaGreatDoorCaCal
namespace Go.Proofs.YtcjakgpmompaiaaGreatDoor
open Go.RowKit Rl Wd

theorem digF_dec : ∀ (k n : Nat), n < 10 ^ k → 0 < k → Wi.Wm.digF k n = Lib.decDigits n
  | 0, _, _, h => by omega
  | k + 1, n, h, _ => by
    unfold Wi.Wm.digF
    by_cases c : n < 10
    · rw [decD_small c, if_pos c]
    · rw [decD_big c, if_neg c]
      cases k with
      | zero => omega
      | succ k => rw [digF_dec (k + 1) (n / 10) (by rw [Nat.pow_succ] at h; omega) (by omega)]
theorem encI_dec {n : Int} (h : 0 ≤ n) (h2 : n ≤ 9223372036854775807) : Wi.mk (Wi.Wm.encI n) = mkB (dec n ++ [59]) := by
  unfold Wi.Wm.encI
  rw [if_neg (by omega), List.nil_append, digF_dec 20 n.natAbs (by have : (10 : Nat) ^ 20 = 100000000000000000000 := by decide
                                                                   omega) (by decide)]
  unfold dec
  rw [show n.natAbs = n.toNat by omega]
  rfl
theorem dec_len1 (n : Int) : 1 ≤ (dec n).length := by
  unfold dec
  cases e : Lib.decDigits n.toNat with
  | nil => exact absurd e (decD_ne _)
  | cons c t => simp
set_option maxHeartbeats 3200000 in
set_option maxRecDepth 100000 in
theorem RDecimal_x (n : Int) (w : World) (h0 : 0 ≤ n) (h1 : n ≤ 1099511627776) :
    Calls Tryz.prog 47 #[.int .i64 n] w fun r w' => r = .returned (.string (mkB (dec n))) ∧ w = w' := by
  have hd := dec_le h1
  have hd1 := dec_len1 n
  have h2 : n ≤ 9223372036854775807 := by omega
  go_enter Tryz.func47, Tryz.ntmps47
  go_wp2_with fail
  refine (Wi.RInt_x n _ ⟨by omega, h2⟩).mono ?_
  rintro r wx ⟨rfl, rfl⟩
  rw [encI_dec h0 h2]
  obtain ⟨s, hs⟩ : ∃ s : B, s = mkB (dec n ++ [59]) := ⟨_, rfl⟩
  rw [← hs]
  have hz : s.size = (dec n).length + 1 := by rw [hs, mkB_size, List.length_append]; rfl
  have hx : Hid (s.extract 0 (dec n).length = mkB (dec n)) := by
    show _ = _
    rw [ext_take_eq, hs, mkB_list, List.take_left]
  obtain ⟨k, hk⟩ : ∃ k : Nat, k = (dec n).length := ⟨_, rfl⟩
  rw [← hk] at hz hd hd1 hx
  have hw : ((s.size : Nat) : Int) - 1 = (k : Int) := by omega
  have hkk : (k : Int) ≤ (s.size : Int) := by omega
  clear hs hk
  go_wp2_with fail
  go_ret
  refine ⟨?_, rfl⟩
  show Ending.returned (.string (s.extract 0 k)) = _
  rw [hx.out]

set_option maxHeartbeats 3200000 in
set_option maxRecDepth 100000 in
theorem Rdate_x (d : Int) (w : World) (h0 : 0 ≤ d) (h1 : d ≤ 100000) :
    Calls Tryz.prog 48 #[.int .i64 d] w fun r w' => r = .returned (.string (mkB (dateB d))) ∧ w = w' := by
  obtain ⟨y, m, k, e1, -, q1, q2, q3, q4, q5, q6⟩ := date_day h0 h1
  have HD : Hid (dateB d = dec (y : Int) ++ 45 :: (dec (m : Int) ++ 45 :: dec (k : Int))) := by show _ = _; unfold dateB; rw [e1]
  go_enter Tryz.func48, Tryz.ntmps48
  go_wp2_with fail
  refine (Ca.Date_x d _).mono ?_
  rintro r wx ⟨rfl, rfl⟩
  rw [e1, show Ca.dv ((y : Int), (m : Int), (k : Int), 0) = .tuple #[.int .i64 (y : Int), .int .i64 (m : Int), .int .i64 (k : Int), .int .i64 0] from rfl]
  clear e1
  go_wp2_with fail
  refine (RDecimal_x (y : Int) _ (by omega) (by omega)).mono ?_
  rintro r wx ⟨rfl, rfl⟩
  obtain ⟨s1, S1⟩ : ∃ s : B, s = mkB (dec (y : Int)) := ⟨_, rfl⟩
  rw [← S1]
  have z1 : s1.size ≤ 1000 := by rw [S1]; exact dec_sz (by omega)
  replace S1 := Lib.hid S1
  go_wp2_with fail
  refine (RDecimal_x (m : Int) _ (by omega) (by omega)).mono ?_
  rintro r wx ⟨rfl, rfl⟩
  obtain ⟨s2, S2⟩ : ∃ s : B, s = mkB (dec (m : Int)) := ⟨_, rfl⟩
  rw [← S2]
  have z2 : s2.size ≤ 1000 := by rw [S2]; exact dec_sz (by omega)
  replace S2 := Lib.hid S2
  go_wp2_with fail
  refine (RDecimal_x (k : Int) _ (by omega) (by omega)).mono ?_
  rintro r wx ⟨rfl, rfl⟩
  obtain ⟨s3, S3⟩ : ∃ s : B, s = mkB (dec (k : Int)) := ⟨_, rfl⟩
  rw [← S3]
  have z3 : s3.size ≤ 1000 := by rw [S3]; exact dec_sz (by omega)
  replace S3 := Lib.hid S3
  go_wp2_with fail
  go_ret
  refine ⟨str_eq ?_, rfl⟩
  show s1 ++ ⟨#[45]⟩ ++ s2 ++ ⟨#[45]⟩ ++ s3 = _
  rw [S1.out, S2.out, S3.out, HD.out]
  show mkB (dec (y : Int)) ++ mkB [45] ++ mkB (dec (m : Int)) ++ mkB [45] ++ mkB (dec (k : Int)) = _
  rw [mkB_app, mkB_app, mkB_app, mkB_app]
  congr 1
  simp only [List.append_assoc, List.cons_append, List.nil_append]

set_option maxHeartbeats 3200000 in
set_option maxRecDepth 100000 in
theorem Rpayable_x (k n u : Int) (w : World) (h : TnQ k n u) :
    Calls Tryz.prog 49 #[.agg #[.int .i64 k, .int .i64 n, .int .i64 u]] w fun r w' => r = .returned (.string (mkB (tPay ++ (termB k n u ++ [10])))) ∧ Below w.heap.size w w' := by
  rcases h with _ | _ | ⟨h1, h2⟩ | ⟨h1, h2, h3, h4⟩
  · have B0 := Lib.hid (Below.new1 (w := w) (.cells #[.int .i64 0, .int .i64 0, .int .i64 0] 33))
    have T0 : Bx 33 (w.alloc (.cells #[.int .i64 0, .int .i64 0, .int .i64 0] 33)) w.heap.size [.int .i64 0, .int .i64 0, .int .i64 0] := Bx.new _ w _ _ rfl
    have t0 := T0.at (i := 0) rfl
    have t1 := T0.at (i := 1) rfl
    have t2 := T0.at (i := 2) rfl
    clear T0
    go_enter Tryz.func49, Tryz.ntmps49
    go_wp2_with fail
    go_ret
    exact ⟨rfl, B0.out⟩
  · have B0 := Lib.hid (Below.new1 (w := w) (.cells #[.int .i64 4, .int .i64 0, .int .i64 0] 33))
    have T0 : Bx 33 (w.alloc (.cells #[.int .i64 4, .int .i64 0, .int .i64 0] 33)) w.heap.size [.int .i64 4, .int .i64 0, .int .i64 0] := Bx.new _ w _ _ rfl
    have t0 := T0.at (i := 0) rfl
    have t1 := T0.at (i := 1) rfl
    have t2 := T0.at (i := 2) rfl
    clear T0
    go_enter Tryz.func49, Tryz.ntmps49
    go_wp2_with fail
    go_ret
    exact ⟨rfl, B0.out⟩
  · have B0 := Lib.hid (Below.new1 (w := w) (.cells #[.int .i64 3, .int .i64 n, .int .i64 0] 33))
    have T0 : Bx 33 (w.alloc (.cells #[.int .i64 3, .int .i64 n, .int .i64 0] 33)) w.heap.size [.int .i64 3, .int .i64 n, .int .i64 0] := Bx.new _ w _ _ rfl
    have t0 := T0.at (i := 0) rfl
    have t1 := T0.at (i := 1) rfl
    have t2 := T0.at (i := 2) rfl
    clear T0
    go_enter Tryz.func49, Tryz.ntmps49
    go_wp2_with fail
    clear t0 t1 t2
    refine (Rdate_x n _ h1 h2).mono ?_
    rintro r wx ⟨rfl, rfl⟩
    obtain ⟨s1, S1⟩ : ∃ s : B, s = mkB (dateB n) := ⟨_, rfl⟩
    rw [← S1]
    have z1 : s1.size ≤ 1000 := by rw [S1]; exact date_sz h1 h2
    replace S1 := Lib.hid S1
    go_wp2_with fail
    go_ret
    refine ⟨str_eq ?_, B0.out⟩
    show ⟨#[112, 97, 121, 32, 111, 110, 32]⟩ ++ s1 ++ ⟨#[10]⟩ = _
    rw [S1.out]
    show mkB (tPay ++ tAt) ++ mkB (dateB n) ++ mkB [10] = _
    rw [mkB_app, mkB_app]
    refine congrArg mkB ?_
    show _ = tPay ++ ((tAt ++ dateB n) ++ [10])
    try simp only [List.cons_append, List.nil_append]
  · rcases h1 with rfl | rfl <;> rcases h4 with rfl | rfl
    · have B0 := Lib.hid (Below.new1 (w := w) (.cells #[.int .i64 1, .int .i64 n, .int .i64 0] 33))
      have T0 : Bx 33 (w.alloc (.cells #[.int .i64 1, .int .i64 n, .int .i64 0] 33)) w.heap.size [.int .i64 1, .int .i64 n, .int .i64 0] := Bx.new _ w _ _ rfl
      have t0 := T0.at (i := 0) rfl
      have t1 := T0.at (i := 1) rfl
      have t2 := T0.at (i := 2) rfl
      clear T0
      go_enter Tryz.func49, Tryz.ntmps49
      go_wp2_with fail
      refine (RDecimal_x n _ (by omega) (by omega)).mono ?_
      rintro r wx ⟨rfl, rfl⟩
      obtain ⟨s1, S1⟩ : ∃ s : B, s = mkB (dec n) := ⟨_, rfl⟩
      rw [← S1]
      have z1 : s1.size ≤ 1000 := by rw [S1]; exact dec_sz (by omega)
      replace S1 := Lib.hid S1
      go_wp2_with fail
      go_ret
      refine ⟨str_eq ?_, B0.out⟩
      show ⟨#[112, 97, 121, 32]⟩ ++ s1 ++ ⟨#[32, 100, 97, 121, 115, 32, 97, 102, 116, 101, 114, 32]⟩ ++ ⟨#[115, 105, 103, 104, 116, 10]⟩ = _
      rw [S1.out]
      show mkB tPay ++ mkB (dec n) ++ mkB [32, 100, 97, 121, 115, 32, 97, 102, 116, 101, 114, 32] ++ mkB [115, 105, 103, 104, 116, 10] = _
      rw [mkB_app, mkB_app, mkB_app]
      refine congrArg mkB ?_
      show _ = tPay ++ ((dec n ++ tDays ++ tASight) ++ [10])
      try simp only [List.append_assoc, List.cons_append, List.nil_append]
    · have B0 := Lib.hid (Below.new1 (w := w) (.cells #[.int .i64 1, .int .i64 n, .int .i64 1] 33))
      have T0 : Bx 33 (w.alloc (.cells #[.int .i64 1, .int .i64 n, .int .i64 1] 33)) w.heap.size [.int .i64 1, .int .i64 n, .int .i64 1] := Bx.new _ w _ _ rfl
      have t0 := T0.at (i := 0) rfl
      have t1 := T0.at (i := 1) rfl
      have t2 := T0.at (i := 2) rfl
      clear T0
      go_enter Tryz.func49, Tryz.ntmps49
      go_wp2_with fail
      refine (RDecimal_x n _ (by omega) (by omega)).mono ?_
      rintro r wx ⟨rfl, rfl⟩
      obtain ⟨s1, S1⟩ : ∃ s : B, s = mkB (dec n) := ⟨_, rfl⟩
      rw [← S1]
      have z1 : s1.size ≤ 1000 := by rw [S1]; exact dec_sz (by omega)
      replace S1 := Lib.hid S1
      go_wp2_with fail
      go_ret
      refine ⟨str_eq ?_, B0.out⟩
      show ⟨#[112, 97, 121, 32]⟩ ++ s1 ++ ⟨#[32, 109, 111, 110, 116, 104, 115, 32, 97, 102, 116, 101, 114, 32]⟩ ++ ⟨#[115, 105, 103, 104, 116, 10]⟩ = _
      rw [S1.out]
      show mkB tPay ++ mkB (dec n) ++ mkB [32, 109, 111, 110, 116, 104, 115, 32, 97, 102, 116, 101, 114, 32] ++ mkB [115, 105, 103, 104, 116, 10] = _
      rw [mkB_app, mkB_app, mkB_app]
      refine congrArg mkB ?_
      show _ = tPay ++ ((dec n ++ tMonths ++ tASight) ++ [10])
      try simp only [List.append_assoc, List.cons_append, List.nil_append]
    · have B0 := Lib.hid (Below.new1 (w := w) (.cells #[.int .i64 2, .int .i64 n, .int .i64 0] 33))
      have T0 : Bx 33 (w.alloc (.cells #[.int .i64 2, .int .i64 n, .int .i64 0] 33)) w.heap.size [.int .i64 2, .int .i64 n, .int .i64 0] := Bx.new _ w _ _ rfl
      have t0 := T0.at (i := 0) rfl
      have t1 := T0.at (i := 1) rfl
      have t2 := T0.at (i := 2) rfl
      clear T0
      go_enter Tryz.func49, Tryz.ntmps49
      go_wp2_with fail
      refine (RDecimal_x n _ (by omega) (by omega)).mono ?_
      rintro r wx ⟨rfl, rfl⟩
      obtain ⟨s1, S1⟩ : ∃ s : B, s = mkB (dec n) := ⟨_, rfl⟩
      rw [← S1]
      have z1 : s1.size ≤ 1000 := by rw [S1]; exact dec_sz (by omega)
      replace S1 := Lib.hid S1
      go_wp2_with fail
      go_ret
      refine ⟨str_eq ?_, B0.out⟩
      show ⟨#[112, 97, 121, 32]⟩ ++ s1 ++ ⟨#[32, 100, 97, 121, 115, 32, 97, 102, 116, 101, 114, 32]⟩ ++ ⟨#[100, 97, 116, 101, 10]⟩ = _
      rw [S1.out]
      show mkB tPay ++ mkB (dec n) ++ mkB [32, 100, 97, 121, 115, 32, 97, 102, 116, 101, 114, 32] ++ mkB [100, 97, 116, 101, 10] = _
      rw [mkB_app, mkB_app, mkB_app]
      refine congrArg mkB ?_
      show _ = tPay ++ ((dec n ++ tDays ++ tADate) ++ [10])
      try simp only [List.append_assoc, List.cons_append, List.nil_append]
    · have B0 := Lib.hid (Below.new1 (w := w) (.cells #[.int .i64 2, .int .i64 n, .int .i64 1] 33))
      have T0 : Bx 33 (w.alloc (.cells #[.int .i64 2, .int .i64 n, .int .i64 1] 33)) w.heap.size [.int .i64 2, .int .i64 n, .int .i64 1] := Bx.new _ w _ _ rfl
      have t0 := T0.at (i := 0) rfl
      have t1 := T0.at (i := 1) rfl
      have t2 := T0.at (i := 2) rfl
      clear T0
      go_enter Tryz.func49, Tryz.ntmps49
      go_wp2_with fail
      refine (RDecimal_x n _ (by omega) (by omega)).mono ?_
      rintro r wx ⟨rfl, rfl⟩
      obtain ⟨s1, S1⟩ : ∃ s : B, s = mkB (dec n) := ⟨_, rfl⟩
      rw [← S1]
      have z1 : s1.size ≤ 1000 := by rw [S1]; exact dec_sz (by omega)
      replace S1 := Lib.hid S1
      go_wp2_with fail
      go_ret
      refine ⟨str_eq ?_, B0.out⟩
      show ⟨#[112, 97, 121, 32]⟩ ++ s1 ++ ⟨#[32, 109, 111, 110, 116, 104, 115, 32, 97, 102, 116, 101, 114, 32]⟩ ++ ⟨#[100, 97, 116, 101, 10]⟩ = _
      rw [S1.out]
      show mkB tPay ++ mkB (dec n) ++ mkB [32, 109, 111, 110, 116, 104, 115, 32, 97, 102, 116, 101, 114, 32] ++ mkB [100, 97, 116, 101, 10] = _
      rw [mkB_app, mkB_app, mkB_app]
      refine congrArg mkB ?_
      show _ = tPay ++ ((dec n ++ tMonths ++ tADate) ++ [10])
      try simp only [List.append_assoc, List.cons_append, List.nil_append]

theorem inter_snoc (sp : L8) : ∀ (l : List L8) (x : L8), l ≠ [] → sp.intercalate (l ++ [x]) = sp.intercalate l ++ (sp ++ x)
  | [], _, h => absurd rfl h
  | [a], x, _ => by simp [List.intercalate, List.intersperse]
  | a :: b :: t, x, _ => by
    have ih := inter_snoc sp (b :: t) x (by simp)
    have e1 : sp.intercalate (a :: b :: t ++ [x]) = a ++ (sp ++ sp.intercalate (b :: t ++ [x])) := by simp [List.intercalate, List.intersperse]
    have e2 : sp.intercalate (a :: b :: t) = a ++ (sp ++ sp.intercalate (b :: t)) := by simp [List.intercalate, List.intersperse]
    rw [e1, ih, e2]
    simp only [List.append_assoc]
/-- the text of the parts so far -/
def jn (p k : Nat) : L8 := tSep.intercalate ((othK p k).map (fun x => x.data.toList))
theorem jn_zero (p : Nat) : jn p 0 = [] := rfl
theorem jn_no {p k : Nat} (h : k = p) : jn p (k + 1) = jn p k := by unfold jn; rw [othK_no h]
theorem oth_nil {p k : Nat} : (othK p k = [] ∧ jn p k = []) ∨ (othK p k ≠ [] ∧ jn p k ≠ []) := by
  by_cases e : othK p k = []
  · exact .inl ⟨e, by unfold jn; rw [e]; rfl⟩
  · refine .inr ⟨e, fun h => ?_⟩
    unfold jn at h
    cases ho : othK p k with
    | nil => exact e ho
    | cons a t =>
      have ha : a.data.toList ≠ [] := by
        have : a ∈ othK p k := by rw [ho]; simp
        unfold othK at this
        obtain ⟨i, -, rfl⟩ := List.mem_map.1 this
        exact decD_ne _
      rw [ho] at h
      cases t with
      | nil =>
        simp [List.intercalate] at h
        exact ha (by simpa using h)
      | cons b t =>
        simp [List.intercalate] at h
theorem jn_yes0 {p k : Nat} (h : k ≠ p) (h0 : jn p k = []) : jn p (k + 1) = dec ((k : Int) + 1) := by
  rcases oth_nil (p := p) (k := k) with h1 | h1
  · unfold jn
    rw [othK_yes h, h1.1]
    show tSep.intercalate [(mkB (dec ((k + 1 : Nat) : Int))).data.toList] = _
    simp [List.intercalate, List.intersperse, mkB_list]
  · exact absurd h0 h1.2
theorem jn_yes1 {p k : Nat} (h : k ≠ p) (h0 : jn p k ≠ []) : jn p (k + 1) = jn p k ++ (tSep ++ dec ((k : Int) + 1)) := by
  rcases oth_nil (p := p) (k := k) with h1 | h1
  · exact absurd h1.2 h0
  · unfold jn
    rw [othK_yes h, List.map_append, List.map_cons, List.map_nil, inter_snoc _ _ _ (by simpa using h1.1)]
    rfl
theorem jn_all (p N : Nat) : jn p N = othB (N : Int) (p : Int) := by unfold jn othB; rw [othK_all]
theorem jn_len {p k : Nat} (h4 : k ≤ 4) : (jn p k).length ≤ 68 := by rw [jn_all]; exact oth_le h4

set_option maxHeartbeats 3200000 in
set_option maxRecDepth 100000 in
theorem Rothers_n (p N : Nat) (w : World) (h4 : N ≤ 4) :
    Calls Tryz.prog 50 #[.int .i64 (N : Int), .int .i64 (p : Int)] w fun r w' => r = .returned (.string (mkB (othB (N : Int) (p : Int)))) ∧ w = w' := by
  go_enter Tryz.func50, Tryz.ntmps50
  go_wp2_with fail
  go_loopw [5, 6] (fun v iv wr => ∃ (k : Nat) (s : B), k ≤ N ∧ iv = .int .i64 (k : Int) ∧ v = .string s ∧ Hid (s = mkB (jn p k)) ∧ w = wr) (fun _ iv _ => N - (intOf iv).toNat)
  case atStart => exact ⟨0, ⟨#[]⟩, Nat.zero_le _, rfl, rfl, rfl, rfl⟩
  case round =>
    obtain ⟨k, s, hk, rfl, rfl, hs, rfl⟩ := hrel
    have hz : s.size ≤ 68 := by rw [hs.out, mkB_size]; exact jn_len (by omega)
    have k0 : (0 : Int) ≤ (k : Int) := by omega
    by_cases c : k < N
    case neg =>
      have kc : ¬ (k : Int) < (N : Int) := by omega
      obtain rfl : k = N := by omega
      go_wp2_with fail
      go_ret
      exact ⟨str_eq (by rw [hs.out, jn_all]), rfl⟩
    case pos =>
      have kc : (k : Int) < (N : Int) := by omega
      by_cases e : k = p
      · have f1 : ((k : Int) != (p : Int)) = false := by rw [e]; simp
        have HJ : Hid (s = mkB (jn p (k + 1))) := by show _ = _; rw [jn_no e]; exact hs.out
        clear e
        go_wp2_with fail
        go_roundw
        case rel => exact ⟨k + 1, s, by omega, by go_num, rfl, HJ.out, by first | rfl | trivial⟩
        case measure => simp [intOf]; omega
      · have f1 : ((k : Int) != (p : Int)) = true := by rw [bne_iff_ne]; omega
        by_cases e0 : jn p k = []
        · have HJ := Lib.hid (jn_yes0 e e0)
          obtain rfl : s = ByteArray.empty := by rw [hs.out, e0]; rfl
          have hem := emp_list
          clear e e0 hz
          go_wp2_with fail
          refine (RDecimal_x ((k : Int) + 1) _ (by omega) (by omega)).mono ?_
          rintro r wx ⟨rfl, rfl⟩
          obtain ⟨s1, S1⟩ : ∃ s : B, s = mkB (dec ((k : Int) + 1)) := ⟨_, rfl⟩
          rw [← S1]
          have z1 : s1.size ≤ 1000 := by rw [S1]; exact dec_sz (by omega)
          replace S1 := Lib.hid S1
          go_wp2_with fail
          go_roundw
          case rel => exact ⟨k + 1, _, by omega, by go_num, rfl, by show _ = _; rw [HJ.out, S1.out]; try exact mkB_app [] _, by first | rfl | trivial⟩
          case measure => simp [intOf]; omega
        · have HJ := Lib.hid (jn_yes1 e e0)
          have hne : ¬ s.toList = [] := ne_list (by rw [hs.out]; exact fun h => e0 (mkB_inj (b := []) h))
          have hie := ne_emp hne
          clear e e0
          go_wp2_with fail
          refine (RDecimal_x ((k : Int) + 1) _ (by omega) (by omega)).mono ?_
          rintro r wx ⟨rfl, rfl⟩
          obtain ⟨s1, S1⟩ : ∃ s : B, s = mkB (dec ((k : Int) + 1)) := ⟨_, rfl⟩
          rw [← S1]
          have z1 : s1.size ≤ 1000 := by rw [S1]; exact dec_sz (by omega)
          replace S1 := Lib.hid S1
          go_wp2_with fail
          go_roundw
          case rel => exact ⟨k + 1, _, by omega, by go_num, rfl, by show _ = _; rw [HJ.out, hs.out, S1.out]; show mkB (jn p k) ++ mkB tSep ++ mkB (dec ((k : Int) + 1)) = _; rw [mkB_app, mkB_app, List.append_assoc], by first | rfl | trivial⟩
          case measure => simp [intOf]; omega
theorem Rothers_x (N p : Int) (w : World) (hN : 0 ≤ N) (h4 : N ≤ 4) (hp : 0 ≤ p) :
    Calls Tryz.prog 50 #[.int .i64 N, .int .i64 p] w fun r w' => r = .returned (.string (mkB (othB N p))) ∧ w = w' := by
  obtain ⟨n, rfl⟩ := Int.eq_ofNat_of_zero_le hN
  obtain ⟨q, rfl⟩ := Int.eq_ofNat_of_zero_le hp
  exact Rothers_n q n w (by omega)
end Go.Proofs.YtcjakgpmompaiaaGreatDoor
