/-
  The program writes: numbers, dates, tenors, the payee, the interest, the other parts.
-/
import Derived.Test.YtcjakgpmompaiaaGreatDoorRdG
import Derived.Test.YtcjakgpmompaiaaGreatDoorShB
namespace Go.Proofs.YtcjakgpmompaiaaGreatDoor
open Go.RowKit Rl Wd

theorem below_grow (w : World) (k : Nat) (os : Array Obj) : Below w.heap.size w (Go.Sort.grow (w.drewN k) os) :=
  ⟨rfl, rfl, rfl, by simp [Go.Sort.grow], fun j hj => Go.Sort.heap_grow_old (w.drewN k) os hj⟩
theorem itoa_x (n : Int) (w : World) (ht : Tb w) (h0 : 0 ≤ n) (h1 : n ≤ 9223372036854775807) :
    Calls Tryz.prog 76 #[.int .i64 n] w fun r w' => r = .returned (.string (mkB (dec n))) ∧ Below w.heap.size w w' := by
  refine (Tryz.strconv_Itoa n (by omega) h1 w ht.tab).mono ?_
  rintro e w' ⟨rfl, k, os, rfl⟩
  refine ⟨?_, below_grow w k os⟩
  rw [Lib.itoa, if_neg (by omega)]
  rfl
/-- joined strings -/
theorem join_x {a : Option Addr} {c : Nat} {l : List B} (sep : B) (w : World) (h : SAt w (.slice a l.length c) l) (hc : l.length ≤ c) (h1 : l.length ≤ 1000) (h2 : (sep.data.toList.intercalate (l.map (·.data.toList))).length ≤ 1000000) :
    Calls Tryz.prog 82 #[.slice a l.length c, .string sep] w fun r w' => r = .returned (.string (mkB (sep.data.toList.intercalate (l.map (·.data.toList))))) ∧ Below w.heap.size w w' := by
  cases l with
  | nil =>
    refine (Tryz.strings_Join_none a c sep w).mono ?_
    rintro r w' ⟨rfl, rfl⟩
    exact ⟨rfl, Below.refl _ _⟩
  | cons y t =>
    obtain ⟨b, off, ea, hlt, -⟩ := h.at (j := 0) (x := y) rfl
    subst ea
    refine (Tryz.strings_Join b off c (y :: t) sep w (fun j x hx => ?_) hlt (by omega) hc (Nat.le_trans h2 (by decide))).mono ?_
    · obtain ⟨b2, off2, ea, hlt2, hc2⟩ := h.at hx
      simp only [Option.some.injEq, Addr.mk.injEq] at ea
      obtain ⟨rfl, rfl, -⟩ := ea
      have := hc2 0 _ rfl
      rw [Nat.mul_one, Nat.add_zero] at this
      exact this
    · rintro r w' ⟨rfl, hb⟩
      exact ⟨rfl, hb⟩
theorem dec_le {n : Int} (h : n ≤ 1099511627776) : (dec n).length ≤ 13 := decD_len 12 n.toNat (by omega)
theorem dec_sz {n : Int} (h : n ≤ 1099511627776) : (mkB (dec n)).size ≤ 1000 := by rw [mkB_size]; have := dec_le h; omega
theorem date_le {d : Int} (h0 : 0 ≤ d) (h1 : d ≤ 100000) : (dateB d).length ≤ 41 := by
  obtain ⟨y, m, k, e1, -, q1, q2, q3, q4, q5, q6⟩ := date_day h0 h1
  unfold dateB
  rw [e1]
  have a := dec_le (n := (y : Int)) (by omega)
  have b := dec_le (n := (m : Int)) (by omega)
  have c := dec_le (n := (k : Int)) (by omega)
  simp only [List.length_append, List.length_cons]
  omega
theorem date_sz {d : Int} (h0 : 0 ≤ d) (h1 : d ≤ 100000) : (mkB (dateB d)).size ≤ 1000 := by rw [mkB_size]; have := date_le h0 h1; omega
theorem per_le {n u : Int} (h : n ≤ 100000) : (perB n u).length ≤ 20 := by
  have := dec_le (n := n) (by omega)
  unfold perB
  split <;> simp only [List.length_append, List.length_cons, List.length_nil] <;> omega
theorem per_sz {n u : Int} (h : n ≤ 100000) : (mkB (perB n u)).size ≤ 1000 := by rw [mkB_size]; have := per_le (u := u) h; omega
theorem cat2 {x y z : L8} (h : x ++ y = z) : mkB x ++ mkB y = mkB z := by rw [mkB_app, h]
theorem cat3 {x y u z : L8} (h : x ++ y ++ u = z) : mkB x ++ mkB y ++ mkB u = mkB z := by rw [mkB_app, mkB_app, h]
theorem str_eq {a b : B} (h : a = b) : Ending.returned (.string a) = Ending.returned (.string b) := by rw [h]
theorem BB.new (w : World) (b : Bl) (n : Nat) (hn : n = w.heap.size) : BB (w.alloc (.cells #[.int .i64 b.drawer, .int .i64 b.drawee, .int .i64 b.payee, .int .i64 b.sum, .int .i64 b.cur, .int .i64 b.tk, .int .i64 b.tn, .int .i64 b.tu, .int .i64 b.day, .int .i64 b.city, .int .i64 b.pay, .int .i64 b.need, .int .i64 b.rate, .int .i64 b.flags, .int .i64 b.parts] 35)) n b := by subst hn; exact heap_alloc_new _ _
theorem bit_and {f : Int} (h0 : 0 ≤ f) (h1 : f ≤ 7) : (bits BinOp.and IntKind.i64 f 1 != 0) = bit f 1 ∧ (bits BinOp.and IntKind.i64 f 2 != 0) = bit f 2 ∧ (bits BinOp.and IntKind.i64 f 4 != 0) = bit f 4 := by
  have : f = 0 ∨ f = 1 ∨ f = 2 ∨ f = 3 ∨ f = 4 ∨ f = 5 ∨ f = 6 ∨ f = 7 := by omega
  rcases this with rfl | rfl | rfl | rfl | rfl | rfl | rfl | rfl <;> decide

set_option maxHeartbeats 3200000 in
set_option maxRecDepth 100000 in
theorem title_x (b : Bl) (w : World) (h0 : 0 ≤ b.flags) (h1 : b.flags ≤ 7) :
    Calls Tryz.prog 75 #[vB b] w fun r w' => r = .returned (.string (mkB (titleB b.flags))) ∧ Below w.heap.size w w' := by
  have X0 := BB.new w b _ rfl
  have y0 := X0.at (i := 13) rfl
  have hb := (bit_and h0 h1).1
  cases e : bit b.flags 1 with
  | true =>
    have hv : Hid (titleB b.flags = tBill) := if_pos e
    rw [e] at hb
    clear e
    go_enter Tryz.func75, Tryz.ntmps75
    go_wp2
    go_ret
    exact ⟨by rw [hv.out]; rfl, Below.new1 _⟩
  | false =>
    have hv : Hid (titleB b.flags = tPaper) := if_neg (by rw [e]; decide)
    rw [e] at hb
    clear e
    go_enter Tryz.func75, Tryz.ntmps75
    go_wp2
    go_ret
    exact ⟨by rw [hv.out]; rfl, Below.new1 _⟩

set_option maxHeartbeats 3200000 in
set_option maxRecDepth 100000 in
theorem date_x (d : Int) (w : World) (hE : Ev w) (h0 : 0 ≤ d) (h1 : d ≤ 100000) :
    Calls Tryz.prog 77 #[.int .i64 d] w fun r w' => r = .returned (.string (mkB (dateB d))) ∧ Below w.heap.size w w' := by
  obtain ⟨y, m, k, e1, -, q1, q2, q3, q4, q5, q6⟩ := date_day h0 h1
  have hv : Hid (dateB d = dec y ++ 45 :: (dec m ++ 45 :: dec k)) := by show _ = _; unfold dateB; rw [e1]
  have HE := Lib.hid hE
  have E1 := Lib.hid e1
  clear e1 hE
  go_enter Tryz.func77, Tryz.ntmps77
  go_wp2_with fail
  refine (Ca.dateP_x d w HE.out.bf).mono ?_
  rintro r w1 ⟨rfl, b1⟩
  rw [E1.out]
  have B1 := Lib.hid b1
  clear b1
  go_wp2_with fail
  refine (itoa_x (y : Int) w1 (HE.out.next B1.out).tb (by omega) (by omega)).mono ?_
  rintro r w2 ⟨rfl, b2⟩
  have B2 := Lib.hid (chain B1.out b2)
  clear b2
  obtain ⟨s1, S1⟩ : ∃ s : B, s = mkB (dec (y : Int)) := ⟨_, rfl⟩
  rw [← S1]
  have z1 : s1.size ≤ 1000 := by rw [S1]; exact dec_sz (by omega)
  replace S1 := Lib.hid S1
  go_wp2_with fail
  refine (itoa_x (m : Int) w2 (HE.out.next B2.out).tb (by omega) (by omega)).mono ?_
  rintro r w3 ⟨rfl, b3⟩
  have B3 := Lib.hid (chain B2.out b3)
  clear b3
  obtain ⟨s2, S2⟩ : ∃ s : B, s = mkB (dec (m : Int)) := ⟨_, rfl⟩
  rw [← S2]
  have z2 : s2.size ≤ 1000 := by rw [S2]; exact dec_sz (by omega)
  replace S2 := Lib.hid S2
  go_wp2_with fail
  refine (itoa_x (k : Int) w3 (HE.out.next B3.out).tb (by omega) (by omega)).mono ?_
  rintro r w4 ⟨rfl, b4⟩
  have B4 := Lib.hid (chain B3.out b4)
  clear b4
  obtain ⟨s3, S3⟩ : ∃ s : B, s = mkB (dec (k : Int)) := ⟨_, rfl⟩
  rw [← S3]
  have z3 : s3.size ≤ 1000 := by rw [S3]; exact dec_sz (by omega)
  replace S3 := Lib.hid S3
  go_wp2
  go_ret
  refine ⟨str_eq ?_, B4.out⟩
  rw [hv.out]
  rw [S1.out, S2.out, S3.out]
  show mkB (dec y) ++ mkB [45] ++ mkB (dec m) ++ mkB [45] ++ mkB (dec k) = _
  rw [mkB_app, mkB_app, mkB_app, mkB_app]
  congr 1
  simp

set_option maxHeartbeats 3200000 in
set_option maxRecDepth 100000 in
theorem period_x (k n u : Int) (w : World) (hT : Tb w) (h0 : 0 ≤ n) (h1 : n ≤ 100000) :
    Calls Tryz.prog 141 #[.agg #[.int .i64 k, .int .i64 n, .int .i64 u]] w fun r w' => r = .returned (.string (mkB (perB n u))) ∧ Below w.heap.size w w' := by
  have X0 := CBx.new w [.int .i64 k, .int .i64 n, .int .i64 u]
  have B0 := Lib.hid (Below.new1 (w := w) (.cells #[.int .i64 k, .int .i64 n, .int .i64 u] 33))
  have y0 := X0.at (i := 0) rfl
  have y1 := X0.at (i := 1) rfl
  have y2 := X0.at (i := 2) rfl
  by_cases e : u = 1
  · have f1 : (u == 1) = true := by rw [beq_iff_eq]; exact e
    have E1 := Lib.hid e
    clear e
    go_enter Tryz.func141, Tryz.ntmps141
    go_wp2_with fail
    refine (itoa_x n _ (hT.next B0.out) (by omega) (by omega)).mono ?_
    rintro r w2 ⟨rfl, b2⟩
    have B2 := Lib.hid (chain B0.out b2)
    obtain ⟨s1, S1⟩ : ∃ s : B, s = mkB (dec n) := ⟨_, rfl⟩
    rw [← S1]
    have z1 : s1.size ≤ 1000 := by rw [S1]; exact dec_sz (by omega)
    replace S1 := Lib.hid S1
    go_wp2
    go_ret
    refine ⟨str_eq ?_, B2.out⟩
    rw [S1.out]
    show mkB (dec n) ++ mkB tMonths = _
    rw [mkB_app]
    unfold perB
    rw [if_pos E1.out]
  · have f1 : (u == 1) = false := by rw [beq_eq_false_iff_ne]; exact e
    have E1 := Lib.hid e
    clear e
    go_enter Tryz.func141, Tryz.ntmps141
    go_wp2_with fail
    refine (itoa_x n _ (hT.next B0.out) (by omega) (by omega)).mono ?_
    rintro r w2 ⟨rfl, b2⟩
    have B2 := Lib.hid (chain B0.out b2)
    obtain ⟨s1, S1⟩ : ∃ s : B, s = mkB (dec n) := ⟨_, rfl⟩
    rw [← S1]
    have z1 : s1.size ≤ 1000 := by rw [S1]; exact dec_sz (by omega)
    replace S1 := Lib.hid S1
    go_wp2
    go_ret
    refine ⟨str_eq ?_, B2.out⟩
    rw [S1.out]
    show mkB (dec n) ++ mkB tDays = _
    rw [mkB_app]
    unfold perB
    rw [if_neg E1.out]

set_option maxHeartbeats 3200000 in
set_option maxRecDepth 100000 in
theorem wterm_x (k n u : Int) (w : World) (hE : Ev w) (hq : TnQ k n u) :
    Calls Tryz.prog 78 #[.agg #[.int .i64 k, .int .i64 n, .int .i64 u]] w fun r w' => r = .returned (.string (mkB (termB k n u))) ∧ Below w.heap.size w w' := by
  have HE := Lib.hid hE
  clear hE
  have X0 := CBx.new w [.int .i64 k, .int .i64 n, .int .i64 u]
  have B0 := Lib.hid (Below.new1 (w := w) (.cells #[.int .i64 k, .int .i64 n, .int .i64 u] 33))
  have y0 := X0.at (i := 0) rfl
  have y1 := X0.at (i := 1) rfl
  have y2 := X0.at (i := 2) rfl
  rcases hq with _ | _ | ⟨h1, h2⟩ | ⟨h1, h2, h3, h4⟩
  · clear X0
    go_enter Tryz.func78, Tryz.ntmps78
    go_wp2
    go_ret
    exact ⟨rfl, B0.out⟩
  · clear X0
    go_enter Tryz.func78, Tryz.ntmps78
    go_wp2
    go_ret
    exact ⟨rfl, B0.out⟩
  · clear X0
    go_enter Tryz.func78, Tryz.ntmps78
    go_wp2_with fail
    refine (date_x n _ (HE.out.next B0.out) h1 h2).mono ?_
    rintro r w2 ⟨rfl, b2⟩
    have B2 := Lib.hid (chain B0.out b2)
    obtain ⟨s1, S1⟩ : ∃ s : B, s = mkB (dateB n) := ⟨_, rfl⟩
    rw [← S1]
    have z1 : s1.size ≤ 1000 := by rw [S1]; exact date_sz h1 h2
    replace S1 := Lib.hid S1
    go_wp2
    go_ret
    exact ⟨str_eq (by rw [S1.out]; exact cat2 (x := tAt) rfl), B2.out⟩
  · rcases h1 with rfl | rfl
    · clear X0
      go_enter Tryz.func78, Tryz.ntmps78
      go_wp2_with fail
      refine (period_x 1 n u _ (HE.out.next B0.out).tb (by omega) (by omega)).mono ?_
      rintro r w2 ⟨rfl, b2⟩
      have B2 := Lib.hid (chain B0.out b2)
      obtain ⟨s1, S1⟩ : ∃ s : B, s = mkB (perB n u) := ⟨_, rfl⟩
      rw [← S1]
      have z1 : s1.size ≤ 1000 := by rw [S1]; exact per_sz (by omega)
      replace S1 := Lib.hid S1
      go_wp2
      go_ret
      exact ⟨str_eq (by rw [S1.out]; exact cat2 (y := tASight) rfl), B2.out⟩
    · clear X0
      go_enter Tryz.func78, Tryz.ntmps78
      go_wp2_with fail
      refine (period_x 2 n u _ (HE.out.next B0.out).tb (by omega) (by omega)).mono ?_
      rintro r w2 ⟨rfl, b2⟩
      have B2 := Lib.hid (chain B0.out b2)
      obtain ⟨s1, S1⟩ : ∃ s : B, s = mkB (perB n u) := ⟨_, rfl⟩
      rw [← S1]
      have z1 : s1.size ≤ 1000 := by rw [S1]; exact per_sz (by omega)
      replace S1 := Lib.hid S1
      go_wp2
      go_ret
      exact ⟨str_eq (by rw [S1.out]; exact cat2 (y := tADate) rfl), B2.out⟩
end Go.Proofs.YtcjakgpmompaiaaGreatDoor
