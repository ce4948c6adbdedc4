/-
  The program writes: numbers, dates, tenors, the payee, the interest, the other parts.
-/
import Derived.Test.YtcjakgpmompaiaaGreatDoorRdG
import Derived.Test.YtcjakgpmompaiaaGreatDoorShA
namespace Go.Proofs.YtcjakgpmompaiaaGreatDoor
open Go.RowKit Rl Wd

theorem below_grow (w : World) (k : Nat) (os : Array Obj) : Below w.heap.size w (Go.Sort.grow (w.drewN k) os) :=
  ⟨rfl, rfl, rfl, by simp [Go.Sort.grow], fun j hj => Go.Sort.heap_grow_old (w.drewN k) os hj⟩
theorem itoa_x (n : Int) (w : World) (ht : Tb w) (h0 : 0 ≤ n) (h1 : n ≤ 9223372036854775807) :
    Calls Tryz.prog 76 #[.int .i64 n] w fun r w' => r = .returned (.string (mkB (dec n))) ∧ Below w.heap.size w w' := by
  refine (Tryz.strconv_Itoa n (by omega) h1 w ht.tab).mono ?_
  rintro e w' ⟨rfl, k, os, rfl⟩
  refine ⟨?_, below_grow w k os⟩
  rw [Lib.itoa, if_neg (by omega)]
  rfl
/-- joined strings -/
theorem join_x {a : Option Addr} {c : Nat} {l : List B} (sep : B) (w : World) (h : SAt w (.slice a l.length c) l) (hc : l.length ≤ c) (h1 : l.length ≤ 1000) (h2 : (sep.data.toList.intercalate (l.map (·.data.toList))).length ≤ 1000000) :
    Calls Tryz.prog 82 #[.slice a l.length c, .string sep] w fun r w' => r = .returned (.string (mkB (sep.data.toList.intercalate (l.map (·.data.toList))))) ∧ Below w.heap.size w w' := by
  cases l with
  | nil =>
    refine (Tryz.strings_Join_none a c sep w).mono ?_
    rintro r w' ⟨rfl, rfl⟩
    exact ⟨rfl, Below.refl _ _⟩
  | cons y t =>
    obtain ⟨b, off, ea, hlt, -⟩ := h.at (j := 0) (x := y) rfl
    subst ea
    refine (Tryz.strings_Join b off c (y :: t) sep w (fun j x hx => ?_) hlt (by omega) hc (Nat.le_trans h2 (by decide))).mono ?_
    · obtain ⟨b2, off2, ea, hlt2, hc2⟩ := h.at hx
      simp only [Option.some.injEq, Addr.mk.injEq] at ea
      obtain ⟨rfl, rfl, -⟩ := ea
      have := hc2 0 _ rfl
      rw [Nat.mul_one, Nat.add_zero] at this
      exact this
    · rintro r w' ⟨rfl, hb⟩
      exact ⟨rfl, hb⟩
theorem dec_le {n : Int} (h : n ≤ 1099511627776) : (dec n).length ≤ 13 := decD_len 12 n.toNat (by omega)
theorem dec_sz {n : Int} (h : n ≤ 1099511627776) : (mkB (dec n)).size ≤ 1000 := by rw [mkB_size]; have := dec_le h; omega
theorem date_le {d : Int} (h0 : 0 ≤ d) (h1 : d ≤ 100000) : (dateB d).length ≤ 41 := by
  obtain ⟨y, m, k, e1, -, q1, q2, q3, q4, q5, q6⟩ := date_day h0 h1
  unfold dateB
  rw [e1]
  have a := dec_le (n := (y : Int)) (by omega)
  have b := dec_le (n := (m : Int)) (by omega)
  have c := dec_le (n := (k : Int)) (by omega)
  simp only [List.length_append, List.length_cons]
  omega
theorem date_sz {d : Int} (h0 : 0 ≤ d) (h1 : d ≤ 100000) : (mkB (dateB d)).size ≤ 1000 := by rw [mkB_size]; have := date_le h0 h1; omega
theorem per_le {n u : Int} (h : n ≤ 100000) : (perB n u).length ≤ 20 := by
  have := dec_le (n := n) (by omega)
  unfold perB
  split <;> simp only [List.length_append, List.length_cons, List.length_nil] <;> omega
theorem per_sz {n u : Int} (h : n ≤ 100000) : (mkB (perB n u)).size ≤ 1000 := by rw [mkB_size]; have := per_le (u := u) h; omega
theorem cat2 {x y z : L8} (h : x ++ y = z) : mkB x ++ mkB y = mkB z := by rw [mkB_app, h]
theorem cat3 {x y u z : L8} (h : x ++ y ++ u = z) : mkB x ++ mkB y ++ mkB u = mkB z := by rw [mkB_app, mkB_app, h]
theorem str_eq {a b : B} (h : a = b) : Ending.returned (.string a) = Ending.returned (.string b) := by rw [h]
theorem BB.new (w : World) (b : Bl) (n : Nat) (hn : n = w.heap.size) : BB (w.alloc (.cells #[.int .i64 b.drawer, .int .i64 b.drawee, .int .i64 b.payee, .int .i64 b.sum, .int .i64 b.cur, .int .i64 b.tk, .int .i64 b.tn, .int .i64 b.tu, .int .i64 b.day, .int .i64 b.city, .int .i64 b.pay, .int .i64 b.need, .int .i64 b.rate, .int .i64 b.flags, .int .i64 b.parts] 35)) n b := by subst hn; exact heap_alloc_new _ _
theorem bit_and {f : Int} (h0 : 0 ≤ f) (h1 : f ≤ 7) : (bits BinOp.and IntKind.i64 f 1 != 0) = bit f 1 ∧ (bits BinOp.and IntKind.i64 f 2 != 0) = bit f 2 ∧ (bits BinOp.and IntKind.i64 f 4 != 0) = bit f 4 := by
  have : f = 0 ∨ f = 1 ∨ f = 2 ∨ f = 3 ∨ f = 4 ∨ f = 5 ∨ f = 6 ∨ f = 7 := by omega
  rcases this with rfl | rfl | rfl | rfl | rfl | rfl | rfl | rfl <;> decide

set_option maxHeartbeats 3200000 in
set_option maxRecDepth 100000 in
theorem title_x (b : Bl) (w : World) (h0 : 0 ≤ b.flags) (h1 : b.flags ≤ 7) :
    Calls Tryz.prog 75 #[vB b] w fun r w' => r = .returned (.string (mkB (titleB b.flags))) ∧ Below w.heap.size w w' := by
  have X0 := BB.new w b _ rfl
  have y0 := X0.at (i := 13) rfl
  have hb := (bit_and h0 h1).1
  cases e : bit b.flags 1 with
  | true =>
    have hv : Hid (titleB b.flags = tBill) := if_pos e
    rw [e] at hb
    clear e
    go_enter Tryz.func75, Tryz.ntmps75
    go_wp2
    go_ret
    exact ⟨by rw [hv.out]; rfl, Below.new1 _⟩
  | false =>
    have hv : Hid (titleB b.flags = tPaper) := if_neg (by rw [e]; decide)
    rw [e] at hb
    clear e
    go_enter Tryz.func75, Tryz.ntmps75
    go_wp2
    go_ret
    exact ⟨by rw [hv.out]; rfl, Below.new1 _⟩

set_option maxHeartbeats 3200000 in
set_option maxRecDepth 100000 in
theorem date_x (d : Int) (w : World) (hE : Ev w) (h0 : 0 ≤ d) (h1 : d ≤ 100000) :
    Calls Tryz.prog 77 #[.int .i64 d] w fun r w' => r = .returned (.string (mkB (dateB d))) ∧ Below w.heap.size w w' := by
  obtain ⟨y, m, k, e1, -, q1, q2, q3, q4, q5, q6⟩ := date_day h0 h1
  have hv : Hid (dateB d = dec y ++ 45 :: (dec m ++ 45 :: dec k)) := by show _ = _; unfold dateB; rw [e1]
  have HE := Lib.hid hE
  have E1 := Lib.hid e1
  clear e1 hE
  go_enter Tryz.func77, Tryz.ntmps77
  go_wp2_with fail
  refine (Ca.dateP_x d w HE.out.bf).mono ?_
  rintro r w1 ⟨rfl, b1⟩
  rw [E1.out]
  have B1 := Lib.hid b1
  clear b1
  go_wp2_with fail
  refine (itoa_x (y : Int) w1 (HE.out.next B1.out).tb (by omega) (by omega)).mono ?_
  rintro r w2 ⟨rfl, b2⟩
  have B2 := Lib.hid (chain B1.out b2)
  clear b2
  obtain ⟨s1, S1⟩ : ∃ s : B, s = mkB (dec (y : Int)) := ⟨_, rfl⟩
  rw [← S1]
  have z1 : s1.size ≤ 1000 := by rw [S1]; exact dec_sz (by omega)
  replace S1 := Lib.hid S1
  go_wp2_with fail
  refine (itoa_x (m : Int) w2 (HE.out.next B2.out).tb (by omega) (by omega)).mono ?_
  rintro r w3 ⟨rfl, b3⟩
  have B3 := Lib.hid (chain B2.out b3)
  clear b3
  obtain ⟨s2, S2⟩ : ∃ s : B, s = mkB (dec (m : Int)) := ⟨_, rfl⟩
  rw [← S2]
  have z2 : s2.size ≤ 1000 := by rw [S2]; exact dec_sz (by omega)
  replace S2 := Lib.hid S2
  go_wp2_with fail
  refine (itoa_x (k : Int) w3 (HE.out.next B3.out).tb (by omega) (by omega)).mono ?_
  rintro r w4 ⟨rfl, b4⟩
  have B4 := Lib.hid (chain B3.out b4)
  clear b4
  obtain ⟨s3, S3⟩ : ∃ s : B, s = mkB (dec (k : Int)) := ⟨_, rfl⟩
  rw [← S3]
  have z3 : s3.size ≤ 1000 := by rw [S3]; exact dec_sz (by omega)
  replace S3 := Lib.hid S3
  go_wp2
  go_ret
  refine ⟨str_eq ?_, B4.out⟩
  rw [hv.out]
  rw [S1.out, S2.out, S3.out]
  show mkB (dec y) ++ mkB [45] ++ mkB (dec m) ++ mkB [45] ++ mkB (dec k) = _
  rw [mkB_app, mkB_app, mkB_app, mkB_app]
  congr 1
  simp

set_option maxHeartbeats 3200000 in
set_option maxRecDepth 100000 in
theorem period_x (k n u : Int) (w : World) (hT : Tb w) (h0 : 0 ≤ n) (h1 : n ≤ 100000) :
    Calls Tryz.prog 141 #[.agg #[.int .i64 k, .int .i64 n, .int .i64 u]] w fun r w' => r = .returned (.string (mkB (perB n u))) ∧ Below w.heap.size w w' := by
  have X0 := CBx.new w [.int .i64 k, .int .i64 n, .int .i64 u]
  have B0 := Lib.hid (Below.new1 (w := w) (.cells #[.int .i64 k, .int .i64 n, .int .i64 u] 33))
  have y0 := X0.at (i := 0) rfl
  have y1 := X0.at (i := 1) rfl
  have y2 := X0.at (i := 2) rfl
  by_cases e : u = 1
  · have f1 : (u == 1) = true := by rw [beq_iff_eq]; exact e
    have E1 := Lib.hid e
    clear e
    go_enter Tryz.func141, Tryz.ntmps141
    go_wp2_with fail
    refine (itoa_x n _ (hT.next B0.out) (by omega) (by omega)).mono ?_
    rintro r w2 ⟨rfl, b2⟩
    have B2 := Lib.hid (chain B0.out b2)
    obtain ⟨s1, S1⟩ : ∃ s : B, s = mkB (dec n) := ⟨_, rfl⟩
    rw [← S1]
    have z1 : s1.size ≤ 1000 := by rw [S1]; exact dec_sz (by omega)
    replace S1 := Lib.hid S1
    go_wp2
    go_ret
    refine ⟨str_eq ?_, B2.out⟩
    rw [S1.out]
    show mkB (dec n) ++ mkB tMonths = _
    rw [mkB_app]
    unfold perB
    rw [if_pos E1.out]
  · have f1 : (u == 1) = false := by rw [beq_eq_false_iff_ne]; exact e
    have E1 := Lib.hid e
    clear e
    go_enter Tryz.func141, Tryz.ntmps141
    go_wp2_with fail
    refine (itoa_x n _ (hT.next B0.out) (by omega) (by omega)).mono ?_
    rintro r w2 ⟨rfl, b2⟩
    have B2 := Lib.hid (chain B0.out b2)
    obtain ⟨s1, S1⟩ : ∃ s : B, s = mkB (dec n) := ⟨_, rfl⟩
    rw [← S1]
    have z1 : s1.size ≤ 1000 := by rw [S1]; exact dec_sz (by omega)
    replace S1 := Lib.hid S1
    go_wp2
    go_ret
    refine ⟨str_eq ?_, B2.out⟩
    rw [S1.out]
    show mkB (dec n) ++ mkB tDays = _
    rw [mkB_app]
    unfold perB
    rw [if_neg E1.out]

set_option maxHeartbeats 3200000 in
set_option maxRecDepth 100000 in
theorem wterm_x (k n u : Int) (w : World) (hE : Ev w) (hq : TnQ k n u) :
    Calls Tryz.prog 78 #[.agg #[.int .i64 k, .int .i64 n, .int .i64 u]] w fun r w' => r = .returned (.string (mkB (termB k n u))) ∧ Below w.heap.size w w' := by
  have HE := Lib.hid hE
  clear hE
  have X0 := CBx.new w [.int .i64 k, .int .i64 n, .int .i64 u]
  have B0 := Lib.hid (Below.new1 (w := w) (.cells #[.int .i64 k, .int .i64 n, .int .i64 u] 33))
  have y0 := X0.at (i := 0) rfl
  have y1 := X0.at (i := 1) rfl
  have y2 := X0.at (i := 2) rfl
  rcases hq with _ | _ | ⟨h1, h2⟩ | ⟨h1, h2, h3, h4⟩
  · clear X0
    go_enter Tryz.func78, Tryz.ntmps78
    go_wp2
    go_ret
    exact ⟨rfl, B0.out⟩
  · clear X0
    go_enter Tryz.func78, Tryz.ntmps78
    go_wp2
    go_ret
    exact ⟨rfl, B0.out⟩
  · clear X0
    go_enter Tryz.func78, Tryz.ntmps78
    go_wp2_with fail
    refine (date_x n _ (HE.out.next B0.out) h1 h2).mono ?_
    rintro r w2 ⟨rfl, b2⟩
    have B2 := Lib.hid (chain B0.out b2)
    obtain ⟨s1, S1⟩ : ∃ s : B, s = mkB (dateB n) := ⟨_, rfl⟩
    rw [← S1]
    have z1 : s1.size ≤ 1000 := by rw [S1]; exact date_sz h1 h2
    replace S1 := Lib.hid S1
    go_wp2
    go_ret
    exact ⟨str_eq (by rw [S1.out]; exact cat2 (x := tAt) rfl), B2.out⟩
  · rcases h1 with rfl | rfl
    · clear X0
      go_enter Tryz.func78, Tryz.ntmps78
      go_wp2_with fail
      refine (period_x 1 n u _ (HE.out.next B0.out).tb (by omega) (by omega)).mono ?_
      rintro r w2 ⟨rfl, b2⟩
      have B2 := Lib.hid (chain B0.out b2)
      obtain ⟨s1, S1⟩ : ∃ s : B, s = mkB (perB n u) := ⟨_, rfl⟩
      rw [← S1]
      have z1 : s1.size ≤ 1000 := by rw [S1]; exact per_sz (by omega)
      replace S1 := Lib.hid S1
      go_wp2
      go_ret
      exact ⟨str_eq (by rw [S1.out]; exact cat2 (y := tASight) rfl), B2.out⟩
    · clear X0
      go_enter Tryz.func78, Tryz.ntmps78
      go_wp2_with fail
      refine (period_x 2 n u _ (HE.out.next B0.out).tb (by omega) (by omega)).mono ?_
      rintro r w2 ⟨rfl, b2⟩
      have B2 := Lib.hid (chain B0.out b2)
      obtain ⟨s1, S1⟩ : ∃ s : B, s = mkB (perB n u) := ⟨_, rfl⟩
      rw [← S1]
      have z1 : s1.size ≤ 1000 := by rw [S1]; exact per_sz (by omega)
      replace S1 := Lib.hid S1
      go_wp2
      go_ret
      exact ⟨str_eq (by rw [S1.out]; exact cat2 (y := tADate) rfl), B2.out⟩
end Go.Proofs.YtcjakgpmompaiaaGreatDoor

/-
  The program writes: the payee, the interest, the other parts.
-/
namespace Go.Proofs.YtcjakgpmompaiaaGreatDoor
open Go.RowKit Rl Wd

theorem name_le {s : B} (h : nameB s = true) : s.size ≤ 20 := (name_iff.1 h).1.2
theorem firm_sz {R : Rlm} (h : checkP R = 0) {i : Nat} {f : Frm} (hf : R.firms[i]? = some f) : f.nm.size ≤ 20 := by
  have h0 := (list_zero.1 (lst_zero h (i := 3) (by decide))).2
  exact name_le (names_ok (nms := R.firms.map Frm.nm) (fun j hj => h0 j (by simpa using hj)) (i := i) (s := f.nm) (by rw [List.getElem?_map, hf]; rfl)).1
theorem city_sz {R : Rlm} (h : checkP R = 0) {i : Nat} {f : Cty} (hf : R.cities[i]? = some f) : f.nm.size ≤ 20 := by
  have h0 := (list_zero.1 (lst_zero h (i := 1) (by decide))).2
  exact name_le (names_ok (nms := R.cities.map Cty.nm) (fun j hj => h0 j (by simpa using hj)) (i := i) (s := f.nm) (by rw [List.getElem?_map, hf]; rfl)).1
theorem cur_sz {R : Rlm} (h : checkP R = 0) {i : Nat} {s : B} (hf : R.cur[i]? = some s) : s.size ≤ 20 := by
  have h0 := (list_zero.1 (lst_zero h (i := 0) (by decide))).2
  exact name_le (names_ok h0 hf).1
theorem wat_cell {T : Type} {w : World} {k : Nat} {c : T → List Value} {v : Value} {l : List T} (h : LAt w k c v l) {n : Int} (hn : ix n l.length = true) :
    ∃ (x : T) (b off cap : Nat), 0 ≤ n ∧ n < (l.length : Int) ∧ l[n.toNat]? = some x ∧ v = .slice (some ⟨b, off, none⟩) l.length cap ∧ ∀ (j : Nat) (y : Value), (c x)[j]? = some y → w.cell? ⟨b, off + n.toNat * k + j, none⟩ = some y := by
  obtain ⟨i, x, rfl, hx⟩ := ix_get hn
  obtain ⟨a, cap, rfl, -, hf⟩ := h.form
  obtain ⟨b, off, rfl, -, hc⟩ := hf.out i x hx
  exact ⟨x, b, off, cap, by omega, by have := (List.getElem?_eq_some_iff.1 hx).1; omega, hx, rfl, hc⟩

set_option maxHeartbeats 3200000 in
set_option maxRecDepth 100000 in
theorem interest_x (b : Bl) (w : World) (hT : Tb w) (h0 : 0 ≤ b.rate) (h1 : b.rate ≤ 1000) :
    Calls Tryz.prog 80 #[vB b] w fun r w' => r = .returned (.string (mkB (intB b.rate))) ∧ Below w.heap.size w w' := by
  have X0 := BB.new w b _ rfl
  have B0 := Lib.hid (Below.new1 (w := w) (.cells #[.int .i64 b.drawer, .int .i64 b.drawee, .int .i64 b.payee, .int .i64 b.sum, .int .i64 b.cur, .int .i64 b.tk, .int .i64 b.tn, .int .i64 b.tu, .int .i64 b.day, .int .i64 b.city, .int .i64 b.pay, .int .i64 b.need, .int .i64 b.rate, .int .i64 b.flags, .int .i64 b.parts] 35))
  have HT := Lib.hid hT
  have y0 := X0.at (i := 12) rfl
  by_cases e : b.rate = 0
  · have f1 : (b.rate == 0) = true := by rw [beq_iff_eq]; exact e
    have E1 := Lib.hid e
    clear e hT
    go_enter Tryz.func80, Tryz.ntmps80
    go_wp2
    go_ret
    exact ⟨by unfold intB; rw [if_pos E1.out]; rfl, B0.out⟩
  · have f1 : (b.rate == 0) = false := by rw [beq_eq_false_iff_ne]; exact e
    have E1 := Lib.hid e
    clear e hT
    go_enter Tryz.func80, Tryz.ntmps80
    go_wp2_with fail
    refine (itoa_x b.rate _ (HT.out.next B0.out) h0 (by omega)).mono ?_
    rintro r w2 ⟨rfl, b2⟩
    have B2 := Lib.hid (chain B0.out b2)
    obtain ⟨s1, S1⟩ : ∃ s : B, s = mkB (dec b.rate) := ⟨_, rfl⟩
    rw [← S1]
    have z1 : s1.size ≤ 1000 := by rw [S1]; exact dec_sz (by omega)
    replace S1 := Lib.hid S1
    go_wp2
    go_ret
    refine ⟨str_eq ?_, B2.out⟩
    rw [S1.out]
    unfold intB
    rw [if_neg E1.out]
    exact cat3 (x := tInt) rfl

set_option maxHeartbeats 3200000 in
set_option maxRecDepth 100000 in
theorem wpayee_x {a0 a1 a2 a3 a4 a5 a6 a7 : Option Addr} {c0 c1 c2 c3 c4 c5 c6 c7 : Nat} {R : Rlm} (b : Bl) (w : World) (hr : RS w a0 a1 a2 a3 a4 a5 a6 a7 c0 c1 c2 c3 c4 c5 c6 c7 R) (hF : Fit R) (hR : checkP R = 0) (hp : b.payee = -1 ∨ ix b.payee R.firms.length = true) (h0 : 0 ≤ b.flags) (h1 : b.flags ≤ 7) :
    Calls Tryz.prog 79 #[.agg #[.slice a0 R.cur.length c0, .slice a1 R.cities.length c1, .slice a2 R.groups.length c2, .slice a3 R.firms.length c3, .slice a4 R.orders.length c4, .slice a5 R.usances.length c5, .slice a6 R.rates.length c6, .slice a7 R.halts.length c7], vB b] w fun r w' => r = .returned (.string (mkB (payB R b.payee b.flags))) ∧ Below w.heap.size w w' := by
  have HR := Lib.hid hr
  have X0 := BB.new (w.alloc (.cells #[.slice a0 R.cur.length c0, .slice a1 R.cities.length c1, .slice a2 R.groups.length c2, .slice a3 R.firms.length c3, .slice a4 R.orders.length c4, .slice a5 R.usances.length c5, .slice a6 R.rates.length c6, .slice a7 R.halts.length c7] 31)) b (w.heap.size + 1) (by simp)
  have HX := Lib.hid X0
  have B0 := Lib.hid (chain (Below.new1 (w := w) (.cells #[.slice a0 R.cur.length c0, .slice a1 R.cities.length c1, .slice a2 R.groups.length c2, .slice a3 R.firms.length c3, .slice a4 R.orders.length c4, .slice a5 R.usances.length c5, .slice a6 R.rates.length c6, .slice a7 R.halts.length c7] 31)) (Below.new1 (.cells #[.int .i64 b.drawer, .int .i64 b.drawee, .int .i64 b.payee, .int .i64 b.sum, .int .i64 b.cur, .int .i64 b.tk, .int .i64 b.tn, .int .i64 b.tu, .int .i64 b.day, .int .i64 b.city, .int .i64 b.pay, .int .i64 b.need, .int .i64 b.rate, .int .i64 b.flags, .int .i64 b.parts] 35)))
  have RB0 := Lib.hid ((RB.new w (a0 := a0) (a1 := a1) (a2 := a2) (a3 := a3) (a4 := a4) (a5 := a5) (a6 := a6) (a7 := a7) (c0 := c0) (c1 := c1) (c2 := c2) (c3 := c3) (c4 := c4) (c5 := c5) (c6 := c6) (c7 := c7) (R := R)).next (Below.new1 (.cells #[.int .i64 b.drawer, .int .i64 b.drawee, .int .i64 b.payee, .int .i64 b.sum, .int .i64 b.cur, .int .i64 b.tk, .int .i64 b.tn, .int .i64 b.tu, .int .i64 b.day, .int .i64 b.city, .int .i64 b.pay, .int .i64 b.need, .int .i64 b.rate, .int .i64 b.flags, .int .i64 b.parts] 35)))
  clear X0
  have y3 := RB0.out.b3
  have hs := hF.firms
  have hb := (bit_and h0 h1).2.2
  by_cases e : b.payee = -1
  · have y0 : ((w.alloc (.cells #[.slice a0 R.cur.length c0, .slice a1 R.cities.length c1, .slice a2 R.groups.length c2, .slice a3 R.firms.length c3, .slice a4 R.orders.length c4, .slice a5 R.usances.length c5, .slice a6 R.rates.length c6, .slice a7 R.halts.length c7] 31)).alloc (.cells #[.int .i64 b.drawer, .int .i64 b.drawee, .int .i64 b.payee, .int .i64 b.sum, .int .i64 b.cur, .int .i64 b.tk, .int .i64 b.tn, .int .i64 b.tu, .int .i64 b.day, .int .i64 b.city, .int .i64 b.pay, .int .i64 b.need, .int .i64 b.rate, .int .i64 b.flags, .int .i64 b.parts] 35)).cell? ⟨w.heap.size + 1, 2, none⟩ = some (.int .i64 (-1)) := by rw [← e]; exact HX.out.at (i := 2) rfl
    have E1 := Lib.hid e
    clear e hp hr hb
    go_enter Tryz.func79, Tryz.ntmps79
    go_wp2
    go_ret
    exact ⟨by unfold payB; rw [if_pos E1.out]; rfl, B0.out⟩
  · have f1 : (b.payee == -1) = false := by rw [beq_eq_false_iff_ne]; exact e
    have E1 := Lib.hid e
    obtain ⟨f, b1, off, cap, i0, i1, hf, es, hc⟩ := wat_cell (HR.out.next B0.out).firms (hp.resolve_left e)
    simp only [Value.slice.injEq] at es
    obtain ⟨ea, -, -⟩ := es
    subst ea
    have hz := firm_sz hR hf
    have HV : Hid (firmN R b.payee = f.nm.data.toList) := by show firmN R _ = _; unfold firmN; rw [hf]
    have y2 := HX.out.at (i := 2) rfl
    have y13 := HX.out.at (i := 13) rfl
    have t0 : ((w.alloc (.cells #[.slice a0 R.cur.length c0, .slice a1 R.cities.length c1, .slice a2 R.groups.length c2, .slice (some ⟨b1, off, none⟩) R.firms.length c3, .slice a4 R.orders.length c4, .slice a5 R.usances.length c5, .slice a6 R.rates.length c6, .slice a7 R.halts.length c7] 31)).alloc (.cells #[.int .i64 b.drawer, .int .i64 b.drawee, .int .i64 b.payee, .int .i64 b.sum, .int .i64 b.cur, .int .i64 b.tk, .int .i64 b.tn, .int .i64 b.tu, .int .i64 b.day, .int .i64 b.city, .int .i64 b.pay, .int .i64 b.need, .int .i64 b.rate, .int .i64 b.flags, .int .i64 b.parts] 35)).cell? ⟨b1, off + b.payee.toNat * 3, none⟩ = some (.string f.nm) := hc 0 _ rfl
    have t1 : ((w.alloc (.cells #[.slice a0 R.cur.length c0, .slice a1 R.cities.length c1, .slice a2 R.groups.length c2, .slice (some ⟨b1, off, none⟩) R.firms.length c3, .slice a4 R.orders.length c4, .slice a5 R.usances.length c5, .slice a6 R.rates.length c6, .slice a7 R.halts.length c7] 31)).alloc (.cells #[.int .i64 b.drawer, .int .i64 b.drawee, .int .i64 b.payee, .int .i64 b.sum, .int .i64 b.cur, .int .i64 b.tk, .int .i64 b.tn, .int .i64 b.tu, .int .i64 b.day, .int .i64 b.city, .int .i64 b.pay, .int .i64 b.need, .int .i64 b.rate, .int .i64 b.flags, .int .i64 b.parts] 35)).cell? ⟨b1, off + b.payee.toNat * 3 + 1, none⟩ = some (.int .i64 f.city) := hc 1 _ rfl
    have t2 : ((w.alloc (.cells #[.slice a0 R.cur.length c0, .slice a1 R.cities.length c1, .slice a2 R.groups.length c2, .slice (some ⟨b1, off, none⟩) R.firms.length c3, .slice a4 R.orders.length c4, .slice a5 R.usances.length c5, .slice a6 R.rates.length c6, .slice a7 R.halts.length c7] 31)).alloc (.cells #[.int .i64 b.drawer, .int .i64 b.drawee, .int .i64 b.payee, .int .i64 b.sum, .int .i64 b.cur, .int .i64 b.tk, .int .i64 b.tn, .int .i64 b.tu, .int .i64 b.day, .int .i64 b.city, .int .i64 b.pay, .int .i64 b.need, .int .i64 b.rate, .int .i64 b.flags, .int .i64 b.parts] 35)).cell? ⟨b1, off + b.payee.toNat * 3 + 2, none⟩ = some (.int .i64 f.grp) := hc 2 _ rfl
    clear hc e hp hr hf
    cases q : bit b.flags 4 with
    | true =>
      rw [q] at hb
      have Q := Lib.hid q
      clear q
      go_enter Tryz.func79, Tryz.ntmps79
      go_wp2
      go_ret
      refine ⟨str_eq ?_, B0.out⟩
      unfold payB
      rw [if_neg E1.out, HV.out, if_pos Q.out, ← mkB_app, mkB_of]
      rfl
    | false =>
      rw [q] at hb
      have Q := Lib.hid q
      clear q
      go_enter Tryz.func79, Tryz.ntmps79
      go_wp2
      go_ret
      refine ⟨str_eq ?_, B0.out⟩
      unfold payB
      rw [if_neg E1.out, HV.out, if_neg (by rw [Q.out]; decide), ← mkB_app, mkB_of]
      rfl


/-- the numbers of the other parts among the first k -/
def othK (p k : Nat) : List B := ((List.range k).filter (fun i => decide (i ≠ p))).map (fun i => mkB (dec (i + 1 : Nat)))
theorem othK_len (p k : Nat) : (othK p k).length ≤ k := by
  unfold othK
  rw [List.length_map]
  exact Nat.le_trans (List.length_filter_le _ _) (by simp)
theorem othK_yes {p k : Nat} (h : k ≠ p) : othK p (k + 1) = othK p k ++ [mkB (dec (k + 1 : Nat))] := by
  unfold othK
  rw [List.range_succ, List.filter_append, List.map_append]
  congr 1
  simp [h]
theorem othK_no {p k : Nat} (h : k = p) : othK p (k + 1) = othK p k := by
  unfold othK
  rw [List.range_succ, List.filter_append, List.map_append]
  simp [h]
theorem othK_all (p : Nat) (N : Nat) : (othK p N).map (·.data.toList) = othN (N : Int) (p : Int) := by
  unfold othK othN
  rw [List.map_map, Int.toNat_natCast, Int.toNat_natCast]
  rfl
theorem inter_le (sp : L8) (m : Nat) : ∀ l : List L8, (∀ x ∈ l, x.length ≤ m) → (sp.intercalate l).length ≤ l.length * (m + sp.length)
  | [], _ => by simp [List.intercalate]
  | [x], h => by
    have := h x (by simp)
    simp [List.intercalate]
    omega
  | x :: y :: t, h => by
    have h1 := h x (by simp)
    have ih := inter_le sp m (y :: t) (fun z hz => h z (by simp [hz]))
    have e : (sp.intercalate (x :: y :: t)) = x ++ (sp ++ sp.intercalate (y :: t)) := by simp [List.intercalate, List.intersperse]
    rw [e, List.length_append, List.length_append]
    simp only [List.length_cons] at ih ⊢
    rw [show (t.length + 1 + 1) * (m + sp.length) = (t.length + 1) * (m + sp.length) + (m + sp.length) by rw [Nat.add_mul, Nat.one_mul]]
    omega
theorem oth_le {N : Nat} {p : Int} (hN : N ≤ 4) : (othB (N : Int) p).length ≤ 68 := by
  have h1 : ∀ x ∈ othN (N : Int) p, x.length ≤ 13 := by
    intro x hx
    unfold othN at hx
    obtain ⟨i, hi, rfl⟩ := List.mem_map.1 hx
    have := List.mem_range.1 (List.mem_filter.1 hi).1
    exact dec_le (by omega)
  have h2 : (othN (N : Int) p).length ≤ N := by
    unfold othN
    rw [List.length_map]
    exact Nat.le_trans (List.length_filter_le _ _) (by simp)
  have := inter_le tSep 13 _ h1
  unfold othB
  have e : (13 + tSep.length) = 17 := rfl
  rw [e] at this
  omega
theorem own_cap {w : World} {base n c : Nat} {T : TypeId} {a : Option Addr} {xs : List Value} (h : w.ownsRow base T 1 (.slice a n c) n xs) : n ≤ c := by
  rcases h.2 with ⟨e, h0⟩ | ⟨g, cap, cur, e, hg, hh, h1, h2, h3, h4⟩
  · omega
  · simp only [Value.slice.injEq] at e
    omega
theorem own_next {w w' : World} {base n : Nat} {T : TypeId} {v : Value} {xs : List Value} (h : w.ownsRow base T 1 v n xs) (hb : Below w.heap.size w w') : w'.ownsRow base T 1 v n xs := by
  refine ⟨h.1, ?_⟩
  rcases h.2 with h0 | ⟨g, cap, cur, e, hg, hh, hrest⟩
  · exact .inl h0
  · exact .inr ⟨g, cap, cur, e, hg, by rw [hb.block _ (Array.getElem?_eq_some_iff.1 hh).1]; exact hh, hrest⟩
theorem othS {k : Nat} {s : B} (h : s = mkB (dec ((k : Int) + 1))) : s = mkB (dec ((k + 1 : Nat) : Int)) := h
theorem oth_len {p k : Nat} (h4 : k ≤ 4) : ((⟨#[32, 111, 114, 32]⟩ : B).data.toList.intercalate ((othK p k).map (·.data.toList))).length ≤ 1000000 := by
  rw [othK_all]
  exact Nat.le_trans (oth_le (N := k) (p := (p : Int)) h4) (by decide)
def OtRel (p N base : Nat) (W : World) (v i : Value) (wr : World) : Prop := ∃ (k m : Nat) (la : Option Addr) (lc : Nat), k ≤ N ∧ m = (othK p k).length ∧ v = .slice la m lc ∧ i = .int .i64 (k : Int) ∧ wr.ownsRow base 9 1 (.slice la m lc) m (strs (othK p k)) ∧ Below W.heap.size W wr

set_option maxHeartbeats 3200000 in
set_option maxRecDepth 100000 in
theorem others_x (b : Bl) (p N : Nat) (w : World) (hE : Ev w) (hN : b.parts = (N : Int)) (h4 : N ≤ 4) (hp : p < N) :
    Calls Tryz.prog 81 #[vB b, .int .i64 (p : Int)] w fun r w' => r = .returned (.string (mkB (othB b.parts (p : Int)))) ∧ Below w.heap.size w w' := by
  have X0 := BB.new w b _ rfl
  have HE := Lib.hid hE
  have B0 := Lib.hid (Below.new1 (w := w) (.cells #[.int .i64 b.drawer, .int .i64 b.drawee, .int .i64 b.payee, .int .i64 b.sum, .int .i64 b.cur, .int .i64 b.tk, .int .i64 b.tn, .int .i64 b.tu, .int .i64 b.day, .int .i64 b.city, .int .i64 b.pay, .int .i64 b.need, .int .i64 b.rate, .int .i64 b.flags, .int .i64 b.parts] 35))
  have ZS : Hid ((w.alloc (.cells #[.int .i64 b.drawer, .int .i64 b.drawee, .int .i64 b.payee, .int .i64 b.sum, .int .i64 b.cur, .int .i64 b.tk, .int .i64 b.tn, .int .i64 b.tu, .int .i64 b.day, .int .i64 b.city, .int .i64 b.pay, .int .i64 b.need, .int .i64 b.rate, .int .i64 b.flags, .int .i64 b.parts] 35)).heap.size = w.heap.size + 1) := by show _ = _; simp
  have y0 : (w.alloc (.cells #[.int .i64 b.drawer, .int .i64 b.drawee, .int .i64 b.payee, .int .i64 b.sum, .int .i64 b.cur, .int .i64 b.tk, .int .i64 b.tn, .int .i64 b.tu, .int .i64 b.day, .int .i64 b.city, .int .i64 b.pay, .int .i64 b.need, .int .i64 b.rate, .int .i64 b.flags, .int .i64 b.parts] 35)).cell? ⟨w.heap.size, 14, none⟩ = some (.int .i64 (N : Int)) := by rw [← hN]; exact X0.at (i := 14) rfl
  have HN := Lib.hid hN
  clear X0 hE hN
  obtain ⟨rj, hj, hy0, hy1, hy2⟩ := info_parts infoS
  have Hj := Lib.hid hj
  have Hy0 := Lib.hid hy0
  have Hy1 := Lib.hid hy1
  have Hy2 := Lib.hid hy2
  clear hj hy0 hy1 hy2

  go_enter Tryz.func81, Tryz.ntmps81
  go_wp2_with fail
  clear y0
  go_loopw [5, 9] (fun v i wr => OtRel p N (w.heap.size + 1) (w.alloc (.cells #[.int .i64 b.drawer, .int .i64 b.drawee, .int .i64 b.payee, .int .i64 b.sum, .int .i64 b.cur, .int .i64 b.tk, .int .i64 b.tn, .int .i64 b.tu, .int .i64 b.day, .int .i64 b.city, .int .i64 b.pay, .int .i64 b.need, .int .i64 b.rate, .int .i64 b.flags, .int .i64 b.parts] 35)) v i wr) (fun _ i _ => N - (intOf i).toNat)
  case atStart => exact ⟨0, 0, none, 0, Nat.zero_le _, rfl, rfl, rfl, World.ownsRow_nil _ _ _ _, Below.refl _ _⟩
  case round =>
    obtain ⟨k, m, la, lc, hk, rfl, rfl, rfl, hown, hbw⟩ := hrel
    have HO := Lib.hid hown
    have HB := Lib.hid (chain B0.out hbw)
    have HB1 := Lib.hid hbw
    have k0 : (0 : Int) ≤ (k : Int) := by omega
    clear hown hbw
    by_cases c : k < N
    case neg =>
      have kc : ¬ (k : Int) < (N : Int) := by omega
      obtain rfl : k = N := by omega
      have hv := Lib.hid (own_str HO.out rfl)
      have hlen := othK_len p k
      have hcp := own_cap HO.out
      have HB2 := Lib.hid HB.out
      go_wp2_with fail
      refine (join_x ⟨#[32, 111, 114, 32]⟩ _ hv.out hcp (by omega) (oth_len h4)).mono ?_
      rintro r w2 ⟨rfl, b2⟩
      have B2 := Lib.hid (chain HB.out b2)
      go_wp2
      go_ret
      refine ⟨str_eq ?_, B2.out⟩
      rw [HN.out, othK_all]
      rfl
    case pos =>
      have kc : (k : Int) < (N : Int) := by omega
      have hlen := othK_len p k
      by_cases e1 : k = p
      · have f1 : ((k : Int) != (p : Int)) = false := by rw [e1]; simp
        have HM := Lib.hid (othK_no e1)
        have HO7 : Hid (wr.ownsRow (w.heap.size + 1) 9 1 (.slice la (othK p k).length lc) (othK p k).length (strs (othK p (k + 1)))) := by
          show World.ownsRow _ _ _ _ _ _ _
          rw [HM.out]
          exact HO.out
        clear e1
        go_wp2_with fail
        go_roundw
        case rel => exact ⟨k + 1, _, la, lc, by omega, by rw [HM.out], rfl, by congr 1, HO7.out, HB1.out⟩
        case measure => simp [intOf]; omega
      · have f1 : ((k : Int) != (p : Int)) = true := by rw [bne_iff_ne]; omega
        have HM := Lib.hid (othK_yes e1)
        clear e1
        go_wp2_with fail
        refine (itoa_x ((k : Int) + 1) _ (HE.out.next HB.out).tb (by omega) (by omega)).mono ?_
        rintro r w2 ⟨rfl, b2⟩
        have B2 := Lib.hid (HB1.out.trans (b2.mono HB1.out.size))
        have O2 := Lib.hid (own_next HO.out b2)
        clear b2
        obtain ⟨s1, S1⟩ : ∃ s : B, s = mkB (dec ((k : Int) + 1)) := ⟨_, rfl⟩
        rw [← S1]
        have z1 : s1.size ≤ 1000 := by rw [S1]; exact dec_sz (by omega)
        replace S1 := Lib.hid S1
        go_wp2_with (at_builtin; refine wpList_append_own _ rfl (.tmp 15) (.tmp 19) 22 rfl (w.heap.size + 1) 9 rj (.string ⟨#[]⟩) 1 16 Tryz.underlying22 Hj.out Hy0.out Hy1.out Hy2.out rfl (by decide) _ (othK p k).length (strs (othK p k)) rfl ((O2.out).alloc _) ⟨(w2).heap.size, 0, none⟩ 1 1 [.string s1] rfl rfl ?f1 ?f2 ?f3 ?f4 ?f5 ?_)
        case f1 => exact cell_new1 _ _ _ _ (by first | rfl | simp)
        case f2 => first | rfl | (intro u hu; simp at hu; subst hu; rfl)
        case f3 => unfold maxLen; omega
        case f4 => omega
        case f5 => have := B2.out.size; simp at this ⊢; omega
        intro v7 w7 hown7 hgrow7 _
        have hrow : ∀ j, (Value.slice la (othK p k).length lc).ownBlock = some j → w.heap.size + 1 ≤ j := fun j hj => (O2.out.lt j hj).1
        have B7 : Hid (Below (w.alloc (.cells #[.int .i64 b.drawer, .int .i64 b.drawee, .int .i64 b.payee, .int .i64 b.sum, .int .i64 b.cur, .int .i64 b.tk, .int .i64 b.tn, .int .i64 b.tu, .int .i64 b.day, .int .i64 b.city, .int .i64 b.pay, .int .i64 b.need, .int .i64 b.rate, .int .i64 b.flags, .int .i64 b.parts] 35)).heap.size (w.alloc (.cells #[.int .i64 b.drawer, .int .i64 b.drawee, .int .i64 b.payee, .int .i64 b.sum, .int .i64 b.cur, .int .i64 b.tk, .int .i64 b.tn, .int .i64 b.tu, .int .i64 b.day, .int .i64 b.city, .int .i64 b.pay, .int .i64 b.need, .int .i64 b.rate, .int .i64 b.flags, .int .i64 b.parts] 35)) w7) := (B2.out.alloc B2.out.size _).grown hgrow7 (by have := B2.out.size; simp at this ⊢; omega) (fun j hj => by rw [ZS.out]; exact hrow j hj)
        have HO7 : Hid (w7.ownsRow (w.heap.size + 1) 9 1 v7 ((othK p k).length + 1) (strs (othK p (k + 1)))) := by
          show w7.ownsRow _ _ _ _ _ _
          rw [HM.out, strs_app, ← othS S1.out]
          exact hown7
        have hl7 : (othK p k).length + 1 = (othK p (k + 1)).length := by rw [HM.out, List.length_append]; rfl
        obtain ⟨la7, lc7, e7⟩ := (own_str HO7.out hl7).shape
        rw [← hl7] at e7
        subst e7
        have HL7 := Lib.hid hl7
        clear hown7 hgrow7 hrow hl7
        go_wp2_with fail
        go_roundw
        case rel => exact ⟨k + 1, _, la7, lc7, by omega, HL7.out, rfl, by congr 1, HO7.out, B7.out⟩
        case measure => simp [intOf]; omega
end Go.Proofs.YtcjakgpmompaiaaGreatDoor

