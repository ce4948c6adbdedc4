/-
  The reference writes: the wording of a part.
-/
import Derived.Test.YtcjakgpmompaiaaGreatDoorRtO
namespace Go.Proofs.YtcjakgpmompaiaaGreatDoor
open Go.RowKit Rl Wd

theorem lyA {α : Type} {l : List α} {i : Nat} {x : α} : l.toArray.setIfInBounds i x = (l.set i x).toArray := List.setIfInBounds_toArray ..
theorem lyB {α : Type} {l : List α} {x y : α} : (x :: l).set 0 y = y :: l := rfl
theorem lyC {α : Type} {l : List α} {n : Nat} {x y : α} : (x :: l).set (n + 1) y = x :: l.set n y := rfl
theorem word_steps (R : Rlm) (b : Bl) (p : Int) : wordW R b p = (titleB b.flags ++ [32]) ++ dec (p + 1) ++ tOf ++ dec b.parts ++ (10 :: tDrawn) ++ cityN R b.city ++ tOn ++ dateB b.day ++ [10] ++ (tPay ++ (termB b.tk b.tn b.tu ++ [10])) ++ (tTo ++ (payB R b.payee b.flags ++ [10])) ++ (dec b.sum ++ 32 :: curN R b.cur) ++ intB b.rate ++ (10 :: tBy ++ firmN R b.drawee ++ tIn ++ cityN R b.pay ++ [10]) ++ (if 1 < b.parts then tUnless ++ othB b.parts p ++ tWas ++ [10] else []) ++ (if b.need = -1 then [] else tNeed ++ firmN R b.need ++ [10]) ++ (if bit b.flags 2 = true then tWithout ++ [10] else []) ++ tSigned ++ firmN R b.drawer ++ [10] := by
  unfold wordW linesW
  by_cases c1 : 1 < b.parts <;> by_cases c2 : b.need = -1 <;> by_cases c3 : bit b.flags 2 = true <;> simp [c1, c2, c3]
theorem pay_line {k n u : Int} (h : TnQ k n u) : (mkB (tPay ++ (termB k n u ++ [10]))).size ≤ 1000 := by
  rw [mkB_size]
  have := term_len h
  simp only [List.length_append, List.length_cons, List.length_nil]
  omega

set_option maxHeartbeats 40000000 in
set_option maxRecDepth 100000 in
theorem RText_yes {a0 a1 a2 a3 a4 a5 a6 a7 : Option Addr} {c0 c1 c2 c3 c4 c5 c6 c7 : Nat} {R : Rlm} (b : Bl) (p : Int) (w : World) (hr : RS w a0 a1 a2 a3 a4 a5 a6 a7 c0 c1 c2 c3 c4 c5 c6 c7 R) (hF : Fit R) (hHas : Has R b p) :
    Calls Tryz.prog 15 #[.agg #[.slice a0 R.cur.length c0, .slice a1 R.cities.length c1, .slice a2 R.groups.length c2, .slice a3 R.firms.length c3, .slice a4 R.orders.length c4, .slice a5 R.usances.length c5, .slice a6 R.rates.length c6, .slice a7 R.halts.length c7], vB b, .int .i64 p] w fun r w' => r = .returned (.string (mkB (wordW R b p))) ∧ Below w.heap.size w w' := by
  have hp0 := hHas.lo
  have hp1 := hHas.hi
  have hR := rt_of hHas.ok
  obtain ⟨bU, oU, rfl, HU⟩ := wat_all hr.cur hR.cur
  obtain ⟨bC, oC, rfl, HC⟩ := wat_all hr.cities hR.city
  obtain ⟨bF, oF, rfl, HF⟩ := wat_all hr.firms hR.drawer
  have HRS := Lib.hid hr
  have HFT := Lib.hid hF
  have sz0 := hF.cur
  have sz1 := hF.cities
  have sz3 := hF.firms
  obtain ⟨nu, ecur⟩ : ∃ x, R.cur[b.cur.toNat]? = some x := ⟨_, List.getElem?_eq_getElem (by have := ix_iff.1 hR.cur; omega)⟩
  have Ecur := Lib.hid ecur
  have zcur : nu.size ≤ 20 := cur_sz hR.realm ecur
  have Vcur : Hid (curN R b.cur = nu.data.toList) := by show curN R _ = _; unfold curN; rw [ecur]
  have icur0 : (0 : Int) ≤ b.cur := (ix_iff.1 hR.cur).1
  have icur1 : b.cur < (R.cur.length : Int) := (ix_iff.1 hR.cur).2
  clear ecur
  obtain ⟨nc, ecity⟩ : ∃ x, R.cities[b.city.toNat]? = some x := ⟨_, List.getElem?_eq_getElem (by have := ix_iff.1 hR.city; omega)⟩
  have Ecity := Lib.hid ecity
  have zcity : nc.nm.size ≤ 20 := city_sz hR.realm ecity
  have Vcity : Hid (cityN R b.city = nc.nm.data.toList) := by show cityN R _ = _; unfold cityN; rw [ecity]
  have icity0 : (0 : Int) ≤ b.city := (ix_iff.1 hR.city).1
  have icity1 : b.city < (R.cities.length : Int) := (ix_iff.1 hR.city).2
  clear ecity
  obtain ⟨np, epay⟩ : ∃ x, R.cities[b.pay.toNat]? = some x := ⟨_, List.getElem?_eq_getElem (by have := ix_iff.1 hR.pay; omega)⟩
  have Epay := Lib.hid epay
  have zpay : np.nm.size ≤ 20 := city_sz hR.realm epay
  have Vpay : Hid (cityN R b.pay = np.nm.data.toList) := by show cityN R _ = _; unfold cityN; rw [epay]
  have ipay0 : (0 : Int) ≤ b.pay := (ix_iff.1 hR.pay).1
  have ipay1 : b.pay < (R.cities.length : Int) := (ix_iff.1 hR.pay).2
  clear epay
  obtain ⟨nd, edrawee⟩ : ∃ x, R.firms[b.drawee.toNat]? = some x := ⟨_, List.getElem?_eq_getElem (by have := ix_iff.1 hR.drawee; omega)⟩
  have Edrawee := Lib.hid edrawee
  have zdrawee : nd.nm.size ≤ 20 := firm_sz hR.realm edrawee
  have Vdrawee : Hid (firmN R b.drawee = nd.nm.data.toList) := by show firmN R _ = _; unfold firmN; rw [edrawee]
  have idrawee0 : (0 : Int) ≤ b.drawee := (ix_iff.1 hR.drawee).1
  have idrawee1 : b.drawee < (R.firms.length : Int) := (ix_iff.1 hR.drawee).2
  clear edrawee
  obtain ⟨nr, edrawer⟩ : ∃ x, R.firms[b.drawer.toNat]? = some x := ⟨_, List.getElem?_eq_getElem (by have := ix_iff.1 hR.drawer; omega)⟩
  have Edrawer := Lib.hid edrawer
  have zdrawer : nr.nm.size ≤ 20 := firm_sz hR.realm edrawer
  have Vdrawer : Hid (firmN R b.drawer = nr.nm.data.toList) := by show firmN R _ = _; unfold firmN; rw [edrawer]
  have idrawer0 : (0 : Int) ≤ b.drawer := (ix_iff.1 hR.drawer).1
  have idrawer1 : b.drawer < (R.firms.length : Int) := (ix_iff.1 hR.drawer).2
  clear edrawer
  have HRT := Lib.hid hR
  have hday := hR.day
  have hsum := hR.sum
  have hrate := hR.rate
  have hparts := hR.parts
  have hflags := hR.flags
  have htn := Lib.hid (tnQ_of hR.tn)
  have hpay := Lib.hid hR.payee
  have hneed := Lib.hid hR.need
  have hrealm := Lib.hid hR.realm
  have X0 := Lib.hid (BB.new (w.alloc (.cells #[.slice (some ⟨bU, oU, none⟩) R.cur.length c0, .slice (some ⟨bC, oC, none⟩) R.cities.length c1, .slice a2 R.groups.length c2, .slice (some ⟨bF, oF, none⟩) R.firms.length c3, .slice a4 R.orders.length c4, .slice a5 R.usances.length c5, .slice a6 R.rates.length c6, .slice a7 R.halts.length c7] 31)) b (w.heap.size + 1) (by simp))
  have RB0 : Hid (RB ((w.alloc (.cells #[.slice (some ⟨bU, oU, none⟩) R.cur.length c0, .slice (some ⟨bC, oC, none⟩) R.cities.length c1, .slice a2 R.groups.length c2, .slice (some ⟨bF, oF, none⟩) R.firms.length c3, .slice a4 R.orders.length c4, .slice a5 R.usances.length c5, .slice a6 R.rates.length c6, .slice a7 R.halts.length c7] 31)).alloc (.cells #[.int .i64 b.drawer, .int .i64 b.drawee, .int .i64 b.payee, .int .i64 b.sum, .int .i64 b.cur, .int .i64 b.tk, .int .i64 b.tn, .int .i64 b.tu, .int .i64 b.day, .int .i64 b.city, .int .i64 b.pay, .int .i64 b.need, .int .i64 b.rate, .int .i64 b.flags, .int .i64 b.parts] 35)) w.heap.size (some ⟨bU, oU, none⟩) (some ⟨bC, oC, none⟩) a2 (some ⟨bF, oF, none⟩) a4 a5 a6 a7 c0 c1 c2 c3 c4 c5 c6 c7 R) := (RB.new w _ _ _ _ _ _ _ _ _ _ _ _ _ _ _ _ R).next (Below.new1 (.cells #[.int .i64 b.drawer, .int .i64 b.drawee, .int .i64 b.payee, .int .i64 b.sum, .int .i64 b.cur, .int .i64 b.tk, .int .i64 b.tn, .int .i64 b.tu, .int .i64 b.day, .int .i64 b.city, .int .i64 b.pay, .int .i64 b.need, .int .i64 b.rate, .int .i64 b.flags, .int .i64 b.parts] 35))
  have ZE : ((w.alloc (.cells #[.slice (some ⟨bU, oU, none⟩) R.cur.length c0, .slice (some ⟨bC, oC, none⟩) R.cities.length c1, .slice a2 R.groups.length c2, .slice (some ⟨bF, oF, none⟩) R.firms.length c3, .slice a4 R.orders.length c4, .slice a5 R.usances.length c5, .slice a6 R.rates.length c6, .slice a7 R.halts.length c7] 31)).alloc (.cells #[.int .i64 b.drawer, .int .i64 b.drawee, .int .i64 b.payee, .int .i64 b.sum, .int .i64 b.cur, .int .i64 b.tk, .int .i64 b.tn, .int .i64 b.tu, .int .i64 b.day, .int .i64 b.city, .int .i64 b.pay, .int .i64 b.need, .int .i64 b.rate, .int .i64 b.flags, .int .i64 b.parts] 35)).heap.size = w.heap.size + 2 := by simp
  have ZL : w.heap.size + 2 ≤ ((w.alloc (.cells #[.slice (some ⟨bU, oU, none⟩) R.cur.length c0, .slice (some ⟨bC, oC, none⟩) R.cities.length c1, .slice a2 R.groups.length c2, .slice (some ⟨bF, oF, none⟩) R.firms.length c3, .slice a4 R.orders.length c4, .slice a5 R.usances.length c5, .slice a6 R.rates.length c6, .slice a7 R.halts.length c7] 31)).alloc (.cells #[.int .i64 b.drawer, .int .i64 b.drawee, .int .i64 b.payee, .int .i64 b.sum, .int .i64 b.cur, .int .i64 b.tk, .int .i64 b.tn, .int .i64 b.tu, .int .i64 b.day, .int .i64 b.city, .int .i64 b.pay, .int .i64 b.need, .int .i64 b.rate, .int .i64 b.flags, .int .i64 b.parts] 35)).heap.size := by rw [ZE]; exact Nat.le_refl _
  have Z0 : w.heap.size ≤ w.heap.size + 2 := by omega
  have HW : Hid (Below w.heap.size w ((w.alloc (.cells #[.slice (some ⟨bU, oU, none⟩) R.cur.length c0, .slice (some ⟨bC, oC, none⟩) R.cities.length c1, .slice a2 R.groups.length c2, .slice (some ⟨bF, oF, none⟩) R.firms.length c3, .slice a4 R.orders.length c4, .slice a5 R.usances.length c5, .slice a6 R.rates.length c6, .slice a7 R.halts.length c7] 31)).alloc (.cells #[.int .i64 b.drawer, .int .i64 b.drawee, .int .i64 b.payee, .int .i64 b.sum, .int .i64 b.cur, .int .i64 b.tk, .int .i64 b.tn, .int .i64 b.tu, .int .i64 b.day, .int .i64 b.city, .int .i64 b.pay, .int .i64 b.need, .int .i64 b.rate, .int .i64 b.flags, .int .i64 b.parts] 35))) := chain (Below.new1 _) (Below.new1 _)
  have hpw : IntKind.i64.wrap (p + 1) = p + 1 := IntWalk.i64_in _ (by omega)
  have hor := bit_and hflags.1 hflags.2
  have hb2 := hor.2.1
  clear hr hF hR ZE hor
  have BW0 := Lib.hid HW.out
  have HHAS := Lib.hid hHas
  clear hHas
  have k0 := RB0.out.b0
  have k1 := RB0.out.b1
  have k2 := RB0.out.b2
  have k3 := RB0.out.b3
  have k4 := RB0.out.b4
  have k5 := RB0.out.b5
  have k6 := RB0.out.b6
  have k7 := RB0.out.b7
  have x0 := X0.out.at (i := 0) rfl
  have x1 := X0.out.at (i := 1) rfl
  have x2 := X0.out.at (i := 2) rfl
  have x3 := X0.out.at (i := 3) rfl
  have x4 := X0.out.at (i := 4) rfl
  have x5 := X0.out.at (i := 5) rfl
  have x6 := X0.out.at (i := 6) rfl
  have x7 := X0.out.at (i := 7) rfl
  have x8 := X0.out.at (i := 8) rfl
  have x9 := X0.out.at (i := 9) rfl
  have x10 := X0.out.at (i := 10) rfl
  have x11 := X0.out.at (i := 11) rfl
  have x12 := X0.out.at (i := 12) rfl
  have x13 := X0.out.at (i := 13) rfl
  have x14 := X0.out.at (i := 14) rfl
  go_enter Tryz.func15, Tryz.ntmps15
  go_wp2_with fail
  clear k0 k1 k2 k3 k4 k5 k6 k7 x0 x1 x2 x3 x4 x5 x6 x7 x8 x9 x10 x11 x12 x13 x14
  refine (RCheck_x b _ (HRS.out.next HW.out) HFT.out).mono ?_
  rintro r w1 ⟨rfl, cc⟩
  have BW1 := Lib.hid (chain BW0.out cc)
  have RB1 := Lib.hid (RB0.out.next cc)
  have X1 := Lib.hid (X0.out.next cc)
  clear cc
  rw [HHAS.out.ok]
  have hp0d : decide (0 ≤ p) = true := decide_eq_true hp0
  have hp1d : decide (p < b.parts) = true := decide_eq_true hp1
  have x0 := X1.out.at (i := 0) rfl
  have x1 := X1.out.at (i := 1) rfl
  have x2 := X1.out.at (i := 2) rfl
  have x3 := X1.out.at (i := 3) rfl
  have x4 := X1.out.at (i := 4) rfl
  have x5 := X1.out.at (i := 5) rfl
  have x6 := X1.out.at (i := 6) rfl
  have x7 := X1.out.at (i := 7) rfl
  have x8 := X1.out.at (i := 8) rfl
  have x9 := X1.out.at (i := 9) rfl
  have x10 := X1.out.at (i := 10) rfl
  have x11 := X1.out.at (i := 11) rfl
  have x12 := X1.out.at (i := 12) rfl
  have x13 := X1.out.at (i := 13) rfl
  have x14 := X1.out.at (i := 14) rfl
  go_wp2_with fail
  refine (Rat_x p b.parts _).mono ?_
  rintro r wx ⟨rfl, rfl⟩
  rw [hp0d, hp1d, Bool.and_self]
  have hb1 := (bit_and hflags.1 hflags.2).1
  go_upto_if 22 with fail
  go_cut [7] (fun v wx => ∃ s : B, v = .string s ∧ Hid (s = mkB (titleB b.flags ++ [32])) ∧ s.size ≤ 10 ∧ wx = w1)
  case first =>
    cases q : bit b.flags 1
    case true =>
      rw [q] at hb1
      have Q := Lib.hid q
      clear q
      go_wp2_with fail
      go_meet
      exact ⟨_, rfl, by show _ = _; unfold titleB; rw [if_pos Q.out]; rfl, by decide, rfl⟩
    case false =>
      rw [q] at hb1
      have Q := Lib.hid q
      clear q
      go_wp2_with fail
      go_meet
      exact ⟨_, rfl, by show _ = _; unfold titleB; rw [if_neg (by rw [Q.out]; decide)]; rfl, by decide, rfl⟩
  case rest =>
  obtain ⟨s1, rfl, S1, z1, rfl⟩ := hcut
  clear x0 x1 x2 x3 x4 x5 x6 x7 x8 x9 x10 x11 x12 x13 x14 hb1
  go_upto_region 6 with fail
  go_cut [7] (fun v wx => ∃ s : B, v = .string s ∧ Hid (s = mkB ((titleB b.flags ++ [32]) ++ dec (p + 1) ++ tOf ++ dec b.parts ++ (10 :: tDrawn) ++ cityN R b.city ++ tOn ++ dateB b.day ++ [10] ++ (tPay ++ (termB b.tk b.tn b.tu ++ [10])))) ∧ s.size ≤ 10000 ∧ Below wc.heap.size wc wx)
  case first =>
    as_aux_lemma =>
    have D0 : Hid (Below wc.heap.size wc wc.drew) := (Below.refl _ _).drew
    refine wp_region_held_drew (S := Below wc.heap.size wc) (by kernel_rfl) ?_ (fun hHeld => ?_)
    · exact D0.out
    refine swap_ops (ops' := rt6Ops) (by kernel_rfl) ?_
    refine wpAnyH_take (v := ?_) rt6_0 rt6_none (by kernel_rfl) (by kernel_rfl) (fun _ _ _ h => h) (Or.inl ⟨by rfl, ?_⟩) (by assumption) ?_
    rotate_left
    · intro wz hSw
      clear hSw
      go_simp
      try rw [if_neg (by omega)]
      try with_reducible rfl
    try simp only [Act.put, lyA, lyB, lyC]
    refine wpAnyH_take (v := ?_) rt6_1 rt6_none (by kernel_rfl) (by kernel_rfl) (fun _ _ _ h => h) (Or.inl ⟨by rfl, ?_⟩) (by assumption) ?_
    rotate_left
    · intro wz hSw
      clear hSw
      go_simp
      try rw [if_neg (by omega)]
      try with_reducible rfl
    try simp only [Act.put, lyA, lyB, lyC]
    refine wpAnyH_take (v := ?_) rt6_2 rt6_none (by kernel_rfl) (by kernel_rfl) (fun _ _ _ h => h) (Or.inl ⟨by rfl, ?_⟩) (by assumption) ?_
    rotate_left
    · intro wz hSw
      clear hSw
      go_simp
      try rw [if_neg (by omega)]
      try with_reducible rfl
    try simp only [Act.put, lyA, lyB, lyC]
    refine wpAnyH_take (v := ?_) rt6_6 rt6_none (by kernel_rfl) (by kernel_rfl) (fun _ _ _ h => h) (Or.inl ⟨by rfl, ?_⟩) (by assumption) ?_
    rotate_left
    · intro wz hSw
      clear hSw
      go_simp
      try rw [if_neg (by omega)]
      try with_reducible rfl
    try simp only [Act.put, lyA, lyB, lyC]
    refine wpAnyH_take (v := ?_) rt6_7 rt6_none (by kernel_rfl) (by kernel_rfl) (fun _ _ _ h => h) (Or.inl ⟨by rfl, ?_⟩) (by assumption) ?_
    rotate_left
    · intro wz hSw
      have xz := X1.out.next hSw
      have x14 := xz.at (i := 14) rfl
      clear xz
      clear hSw
      go_simp
      try rw [if_neg (by omega)]
      try with_reducible rfl
    try simp only [Act.put, lyA, lyB, lyC]
    refine wpAnyH_take (v := ?_) rt6_11 rt6_none (by kernel_rfl) (by kernel_rfl) (fun _ _ _ h => h) (Or.inl ⟨by rfl, ?_⟩) (by assumption) ?_
    rotate_left
    · intro wz hSw
      clear hSw
      go_simp
      try rw [if_neg (by omega)]
      try with_reducible rfl
    try simp only [Act.put, lyA, lyB, lyC]
    refine wpAnyH_take (v := ?_) rt6_12 rt6_none (by kernel_rfl) (by kernel_rfl) (fun _ _ _ h => h) (Or.inl ⟨by rfl, ?_⟩) (by assumption) ?_
    rotate_left
    · intro wz hSw
      have kz := RB1.out.next hSw
      have k1 := kz.b1
      clear kz
      clear hSw
      go_simp
      try rw [if_neg (by omega)]
      try with_reducible rfl
    try simp only [Act.put, lyA, lyB, lyC]
    refine wpAnyH_take (v := ?_) rt6_13 rt6_none (by kernel_rfl) (by kernel_rfl) (fun _ _ _ h => h) (Or.inl ⟨by rfl, ?_⟩) (by assumption) ?_
    rotate_left
    · intro wz hSw
      clear hSw
      go_simp
      try rw [if_neg (by omega)]
      try with_reducible rfl
    try simp only [Act.put, lyA, lyB, lyC]
    refine wpAnyH_take (v := ?_) rt6_14 rt6_none (by kernel_rfl) (by kernel_rfl) (fun _ _ _ h => h) (Or.inl ⟨by rfl, ?_⟩) (by assumption) ?_
    rotate_left
    · intro wz hSw
      have xz := X1.out.next hSw
      have x9 := xz.at (i := 9) rfl
      clear xz
      clear hSw
      go_simp
      try rw [if_neg (by omega)]
      try with_reducible rfl
    try simp only [Act.put, lyA, lyB, lyC]
    refine wpAnyH_take (v := ?_) rt6_15 rt6_none (by kernel_rfl) (by kernel_rfl) (fun _ _ _ h => h) (Or.inl ⟨by rfl, ?_⟩) (by assumption) ?_
    rotate_left
    · intro wz hSw
      clear hSw
      go_simp
      try rw [if_neg (by omega)]
      try with_reducible rfl
    try simp only [Act.put, lyA, lyB, lyC]
    refine wpAnyH_take (v := ?_) rt6_16 rt6_none (by kernel_rfl) (by kernel_rfl) (fun _ _ _ h => h) (Or.inl ⟨by rfl, ?_⟩) (by assumption) ?_
    rotate_left
    · intro wz hSw
      clear hSw
      go_simp
      try rw [if_neg (by omega)]
      try with_reducible rfl
    try simp only [Act.put, lyA, lyB, lyC]
    refine wpAnyH_take (v := ?_) rt6_17 rt6_none (by kernel_rfl) (by kernel_rfl) (fun _ _ _ h => h) (Or.inl ⟨by rfl, ?_⟩) (by assumption) ?_
    rotate_left
    · intro wz hSw
      have mcity : wz.cell? ⟨bC, oC + b.city.toNat * 6, none⟩ = some (.string nc.nm) := cell_up (chain BW1.out hSw) (HC.out _ _ Ecity.out 0 _ rfl)
      clear hSw
      go_simp
      try rw [if_neg (by omega)]
      try with_reducible rfl
    try simp only [Act.put, lyA, lyB, lyC]
    refine wpAnyH_take (v := ?_) rt6_20 rt6_none (by kernel_rfl) (by kernel_rfl) (fun _ _ _ h => h) (Or.inl ⟨by rfl, ?_⟩) (by assumption) ?_
    rotate_left
    · intro wz hSw
      clear hSw
      go_simp
      try rw [if_neg (by omega)]
      try with_reducible rfl
    try simp only [Act.put, lyA, lyB, lyC]
    refine wpAnyH_take (v := ?_) rt6_21 rt6_none (by kernel_rfl) (by kernel_rfl) (fun _ _ _ h => h) (Or.inl ⟨by rfl, ?_⟩) (by assumption) ?_
    rotate_left
    · intro wz hSw
      have xz := X1.out.next hSw
      have x8 := xz.at (i := 8) rfl
      clear xz
      clear hSw
      go_simp
      try rw [if_neg (by omega)]
      try with_reducible rfl
    try simp only [Act.put, lyA, lyB, lyC]
    refine wpAnyH_take (v := ?_) rt6_25 rt6_none (by kernel_rfl) (by kernel_rfl) (fun _ _ _ h => h) (Or.inl ⟨by rfl, ?_⟩) (by assumption) ?_
    rotate_left
    · intro wz hSw
      clear hSw
      go_simp
      try rw [if_neg (by omega)]
      try with_reducible rfl
    try simp only [Act.put, lyA, lyB, lyC]
    refine wpAnyH_take (v := ?_) rt6_26 rt6_none (by kernel_rfl) (by kernel_rfl) (fun _ _ _ h => h) (Or.inl ⟨by rfl, ?_⟩) (by assumption) ?_
    rotate_left
    · intro wz hSw
      have xz := X1.out.next hSw
      have x5 := xz.at (i := 5) rfl
      have x6 := xz.at (i := 6) rfl
      have x7 := xz.at (i := 7) rfl
      clear xz
      clear hSw
      go_simp
      try rw [if_neg (by omega)]
      try with_reducible rfl
    try simp only [Act.put, lyA, lyB, lyC]
    refine wpAnyH_ready (rs := [3]) (by kernel_rfl) (by simp) (AllReadyH.cons rt6_3 (fun K hK => ?_) AllReadyH.nil)
    rw [if_pos (by rfl)]
    go_simp
    (go_at_call 47; refine (RDecimal_x (p + 1) _ (by omega) (by omega)).mono ?_; rintro r wy ⟨rfl, rfl⟩)
    try go_wp2_with fail
    obtain ⟨s11, S11⟩ : ∃ s : B, s = mkB (dec (p + 1)) := ⟨_, rfl⟩
    rw [← S11]
    have z11 : s11.size ≤ 1000 := by rw [S11]; exact dec_sz (by omega)
    replace S11 := Lib.hid S11
    refine hK.out _ _ ?_ (fun hHeld => ?_)
    · exact D0.out
    clear hK K
    try simp only [Act.put, lyA, lyB, lyC]
    refine wpAnyH_take (v := ?_) rt6_4 rt6_none (by kernel_rfl) (by kernel_rfl) (fun _ _ _ h => h) (Or.inl ⟨by rfl, ?_⟩) (by assumption) ?_
    rotate_left
    · intro wz hSw
      clear hSw
      go_simp
      try rw [if_neg (by omega)]
      try with_reducible rfl
    try simp only [Act.put, lyA, lyB, lyC]
    refine wpAnyH_take (v := ?_) rt6_5 rt6_none (by kernel_rfl) (by kernel_rfl) (fun _ _ _ h => h) (Or.inl ⟨by rfl, ?_⟩) (by assumption) ?_
    rotate_left
    · intro wz hSw
      clear hSw
      go_simp
      try rw [if_neg (by omega)]
      try with_reducible rfl
    try simp only [Act.put, lyA, lyB, lyC]
    refine wpAnyH_ready (rs := [8]) (by kernel_rfl) (by simp) (AllReadyH.cons rt6_8 (fun K hK => ?_) AllReadyH.nil)
    rw [if_pos (by rfl)]
    go_simp
    (go_at_call 47; refine (RDecimal_x b.parts _ (by omega) (by omega)).mono ?_; rintro r wy ⟨rfl, rfl⟩)
    try go_wp2_with fail
    obtain ⟨s12, S12⟩ : ∃ s : B, s = mkB (dec b.parts) := ⟨_, rfl⟩
    rw [← S12]
    have z12 : s12.size ≤ 1000 := by rw [S12]; exact dec_sz (by omega)
    replace S12 := Lib.hid S12
    refine hK.out _ _ ?_ (fun hHeld => ?_)
    · exact D0.out
    clear hK K
    try simp only [Act.put, lyA, lyB, lyC]
    refine wpAnyH_take (v := ?_) rt6_9 rt6_none (by kernel_rfl) (by kernel_rfl) (fun _ _ _ h => h) (Or.inl ⟨by rfl, ?_⟩) (by assumption) ?_
    rotate_left
    · intro wz hSw
      clear hSw
      go_simp
      try rw [if_neg (by omega)]
      try with_reducible rfl
    try simp only [Act.put, lyA, lyB, lyC]
    refine wpAnyH_take (v := ?_) rt6_10 rt6_none (by kernel_rfl) (by kernel_rfl) (fun _ _ _ h => h) (Or.inl ⟨by rfl, ?_⟩) (by assumption) ?_
    rotate_left
    · intro wz hSw
      clear hSw
      go_simp
      try rw [if_neg (by omega)]
      try with_reducible rfl
    try simp only [Act.put, lyA, lyB, lyC]
    refine wpAnyH_take (v := ?_) rt6_18 rt6_none (by kernel_rfl) (by kernel_rfl) (fun _ _ _ h => h) (Or.inl ⟨by rfl, ?_⟩) (by assumption) ?_
    rotate_left
    · intro wz hSw
      clear hSw
      go_simp
      try rw [if_neg (by omega)]
      try with_reducible rfl
    try simp only [Act.put, lyA, lyB, lyC]
    refine wpAnyH_take (v := ?_) rt6_19 rt6_none (by kernel_rfl) (by kernel_rfl) (fun _ _ _ h => h) (Or.inl ⟨by rfl, ?_⟩) (by assumption) ?_
    rotate_left
    · intro wz hSw
      clear hSw
      go_simp
      try rw [if_neg (by omega)]
      try with_reducible rfl
    try simp only [Act.put, lyA, lyB, lyC]
    refine wpAnyH_ready (rs := [22]) (by kernel_rfl) (by simp) (AllReadyH.cons rt6_22 (fun K hK => ?_) AllReadyH.nil)
    rw [if_pos (by rfl)]
    go_simp
    (go_at_call 48; refine (Rdate_x b.day _ hday.1 hday.2).mono ?_; rintro r wy ⟨rfl, rfl⟩)
    try go_wp2_with fail
    obtain ⟨s13, S13⟩ : ∃ s : B, s = mkB (dateB b.day) := ⟨_, rfl⟩
    rw [← S13]
    have z13 : s13.size ≤ 1000 := by rw [S13]; exact date_sz hday.1 hday.2
    replace S13 := Lib.hid S13
    refine hK.out _ _ ?_ (fun hHeld => ?_)
    · exact D0.out
    clear hK K
    try simp only [Act.put, lyA, lyB, lyC]
    refine wpAnyH_take (v := ?_) rt6_23 rt6_none (by kernel_rfl) (by kernel_rfl) (fun _ _ _ h => h) (Or.inl ⟨by rfl, ?_⟩) (by assumption) ?_
    rotate_left
    · intro wz hSw
      clear hSw
      go_simp
      try rw [if_neg (by omega)]
      try with_reducible rfl
    try simp only [Act.put, lyA, lyB, lyC]
    refine wpAnyH_take (v := ?_) rt6_24 rt6_none (by kernel_rfl) (by kernel_rfl) (fun _ _ _ h => h) (Or.inl ⟨by rfl, ?_⟩) (by assumption) ?_
    rotate_left
    · intro wz hSw
      clear hSw
      go_simp
      try rw [if_neg (by omega)]
      try with_reducible rfl
    try simp only [Act.put, lyA, lyB, lyC]
    refine wpAnyH_ready (rs := [27]) (by kernel_rfl) (by simp) (AllReadyH.cons rt6_27 (fun K hK => ?_) AllReadyH.nil)
    rw [if_pos (by rfl)]
    go_simp
    (go_at_call 49; refine (Rpayable_x b.tk b.tn b.tu _ htn.out).mono ?_; rintro r v1 ⟨rfl, cc⟩)
    obtain ⟨s14, S14⟩ : ∃ s : B, s = mkB (tPay ++ (termB b.tk b.tn b.tu ++ [10])) := ⟨_, rfl⟩
    rw [← S14]
    have z14 : s14.size ≤ 1000 := by rw [S14]; exact pay_line htn.out
    replace S14 := Lib.hid S14
    try go_wp2_with fail
    have D1 : Hid (Below wc.heap.size wc v1) := chain D0.out cc
    clear cc
    refine hK.out _ _ ?_ (fun hHeld => ?_)
    · exact D1.out
    clear hK K
    try simp only [Act.put, lyA, lyB, lyC]
    refine wpAnyH_take (v := ?_) rt6_28 rt6_none (by kernel_rfl) (by kernel_rfl) (fun _ _ _ h => h) (Or.inl ⟨by rfl, ?_⟩) (by assumption) ?_
    rotate_left
    · intro wz hSw
      clear hSw
      go_simp
      try rw [if_neg (by omega)]
      try with_reducible rfl
    try simp only [Act.put, lyA, lyB, lyC]
    refine wpAnyH_take (v := ?_) rt6_29 rt6_none (by kernel_rfl) (by kernel_rfl) (fun _ _ _ h => h) (Or.inl ⟨by rfl, ?_⟩) (by assumption) ?_
    rotate_left
    · intro wz hSw
      clear hSw
      go_simp
      try rw [if_neg (by omega)]
      try with_reducible rfl
    try simp only [Act.put, lyA, lyB, lyC]
    refine wpAnyH_done (by kernel_rfl) ?_ _
    go_wp2_with fail
    go_meet
    case rel =>
      refine ⟨_, rfl, ?_, ?_, D1.out⟩
      · show s1 ++ s11 ++ ⟨#[32, 111, 102, 32]⟩ ++ s12 ++ ⟨#[10, 100, 114, 97, 119, 110, 32, 105, 110, 32]⟩ ++ nc.nm ++ ⟨#[32, 111, 110, 32]⟩ ++ s13 ++ ⟨#[10]⟩ ++ s14 = _
        rw [S1.out, S11.out, S12.out, S13.out, S14.out, ← mkB_of nc.nm, ← Vcity.out]
        show mkB (titleB b.flags ++ [32]) ++ mkB (dec (p + 1)) ++ mkB tOf ++ mkB (dec b.parts) ++ mkB (10 :: tDrawn) ++ mkB (cityN R b.city) ++ mkB tOn ++ mkB (dateB b.day) ++ mkB [10] ++ mkB (tPay ++ (termB b.tk b.tn b.tu ++ [10])) = _
        rw [mkB_app, mkB_app, mkB_app, mkB_app, mkB_app, mkB_app, mkB_app, mkB_app, mkB_app]
      · simp only [ByteArray.size_append]
        have e1 : (⟨#[32, 111, 102, 32]⟩ : B).size = 4 := rfl
        have e2 : (⟨#[10, 100, 114, 97, 119, 110, 32, 105, 110, 32]⟩ : B).size = 10 := rfl
        have e3 : (⟨#[32, 111, 110, 32]⟩ : B).size = 4 := rfl
        have e4 : (⟨#[10]⟩ : B).size = 1 := rfl
        omega
  case rest =>
  obtain ⟨s2, rfl, S2, z2, bc⟩ := hcut
  have S2e : s2 = mkB ((titleB b.flags ++ [32]) ++ dec (p + 1) ++ tOf ++ dec b.parts ++ (10 :: tDrawn) ++ cityN R b.city ++ tOn ++ dateB b.day ++ [10] ++ (tPay ++ (termB b.tk b.tn b.tu ++ [10]))) := S2.out
  obtain ⟨M2, hL2⟩ : ∃ L : L8, L = (titleB b.flags ++ [32]) ++ dec (p + 1) ++ tOf ++ dec b.parts ++ (10 :: tDrawn) ++ cityN R b.city ++ tOn ++ dateB b.day ++ [10] ++ (tPay ++ (termB b.tk b.tn b.tu ++ [10])) := ⟨_, rfl⟩
  rw [← hL2] at S2e
  replace S2 := Lib.hid S2e
  have HL2 := Lib.hid hL2
  clear S2e hL2
  have RB2 := Lib.hid (RB1.out.next bc)
  have X2 := Lib.hid (X1.out.next bc)
  have BW2 := Lib.hid (chain BW1.out bc)
  clear bc
  have xp := X2.out.at (i := 2) rfl
  go_upto_if 54 with fail
  clear xp
  go_cut [7] (fun v wx => ∃ s : B, v = .string s ∧ Hid (s = mkB (M2 ++ (tTo ++ (payB R b.payee b.flags ++ [10])))) ∧ s.size ≤ 20000 ∧ Below wc.heap.size wc wx)
  case first =>
    as_aux_lemma =>
    have x2 := X2.out.at (i := 2) rfl
    have x13 := X2.out.at (i := 13) rfl
    have hb4 := (bit_and hflags.1 hflags.2).2.2
    by_cases qp : b.payee = -1
    · have QP := Lib.hid qp
      have qe : (b.payee == -1) = true := beq_iff_eq.2 qp
      clear qp
      go_wp2_with fail
      go_meet
      refine ⟨_, rfl, ?_, ?_, Below.refl _ _⟩
      · show s2 ++ ⟨#[116, 111, 32, 98, 101, 97, 114, 101, 114, 10]⟩ = _
        rw [S2.out]
        show mkB M2 ++ mkB (tTo ++ (tBearer ++ [10])) = _
        rw [mkB_app]
        refine congrArg mkB ?_
        rw [show payB R b.payee b.flags = tBearer by unfold payB; rw [if_pos QP.out]]
      · show (s2 ++ ⟨#[116, 111, 32, 98, 101, 97, 114, 101, 114, 10]⟩).size ≤ _
        simp only [ByteArray.size_append]
        have e0 : (⟨#[116, 111, 32, 98, 101, 97, 114, 101, 114, 10]⟩ : B).size = 10 := rfl
        omega
    · have QP := Lib.hid qp
      have qe : (b.payee == -1) = false := beq_eq_false_iff_ne.2 qp
      obtain ⟨ny, epayee⟩ : ∃ x, R.firms[b.payee.toNat]? = some x := ⟨_, List.getElem?_eq_getElem (by have := ix_iff.1 (hpay.out.resolve_left qp); omega)⟩
      have Epayee := Lib.hid epayee
      have zpayee : ny.nm.size ≤ 20 := firm_sz hrealm.out epayee
      have Vpayee : Hid (firmN R b.payee = ny.nm.data.toList) := by show firmN R _ = _; unfold firmN; rw [epayee]
      have ipayee0 : (0 : Int) ≤ b.payee := (ix_iff.1 (hpay.out.resolve_left qp)).1
      have ipayee1 : b.payee < (R.firms.length : Int) := (ix_iff.1 (hpay.out.resolve_left qp)).2
      clear epayee
      clear qp
      have k3 := RB2.out.b3
      have mpayee : wc.cell? ⟨bF, oF + b.payee.toNat * 3, none⟩ = some (.string ny.nm) := cell_up BW2.out (HF.out _ _ Epayee.out 0 _ rfl)
      cases q4 : bit b.flags 4
      case true =>
        rw [q4] at hb4
        have Q4 := Lib.hid q4
        clear q4
        go_wp2_with fail
        go_meet
        refine ⟨_, rfl, ?_, ?_, Below.refl _ _⟩
        · show s2 ++ ⟨#[116, 111, 32]⟩ ++ ny.nm ++ ⟨#[32, 110, 111, 116, 32, 116, 111, 32, 111, 114, 100, 101, 114, 10]⟩ = _
          rw [S2.out, ← mkB_of ny.nm, ← Vpayee.out]
          show mkB M2 ++ mkB tTo ++ mkB (firmN R b.payee) ++ mkB (tNot ++ [10]) = _
          rw [mkB_app, mkB_app, mkB_app]
          refine congrArg mkB ?_
          rw [show payB R b.payee b.flags = firmN R b.payee ++ tNot by unfold payB; rw [if_neg QP.out, if_pos Q4.out]]
          simp only [List.append_assoc, List.cons_append, List.nil_append]
        · show (s2 ++ ⟨#[116, 111, 32]⟩ ++ ny.nm ++ ⟨#[32, 110, 111, 116, 32, 116, 111, 32, 111, 114, 100, 101, 114, 10]⟩).size ≤ _
          simp only [ByteArray.size_append]
          have e0 : (⟨#[116, 111, 32]⟩ : B).size = 3 := rfl
          have e1 : (⟨#[32, 110, 111, 116, 32, 116, 111, 32, 111, 114, 100, 101, 114, 10]⟩ : B).size = 14 := rfl
          omega
      case false =>
        rw [q4] at hb4
        have Q4 := Lib.hid q4
        clear q4
        go_wp2_with fail
        go_meet
        refine ⟨_, rfl, ?_, ?_, Below.refl _ _⟩
        · show s2 ++ ⟨#[116, 111, 32]⟩ ++ ny.nm ++ ⟨#[32, 111, 114, 32, 111, 114, 100, 101, 114, 10]⟩ = _
          rw [S2.out, ← mkB_of ny.nm, ← Vpayee.out]
          show mkB M2 ++ mkB tTo ++ mkB (firmN R b.payee) ++ mkB (tOr ++ [10]) = _
          rw [mkB_app, mkB_app, mkB_app]
          refine congrArg mkB ?_
          rw [show payB R b.payee b.flags = firmN R b.payee ++ tOr by unfold payB; rw [if_neg QP.out, if_neg (by rw [Q4.out]; decide)]]
          simp only [List.append_assoc, List.cons_append, List.nil_append]
        · show (s2 ++ ⟨#[116, 111, 32]⟩ ++ ny.nm ++ ⟨#[32, 111, 114, 32, 111, 114, 100, 101, 114, 10]⟩).size ≤ _
          simp only [ByteArray.size_append]
          have e0 : (⟨#[116, 111, 32]⟩ : B).size = 3 := rfl
          have e1 : (⟨#[32, 111, 114, 32, 111, 114, 100, 101, 114, 10]⟩ : B).size = 10 := rfl
          omega
  case rest =>
  obtain ⟨s3, rfl, S3, z3, bc⟩ := hcut
  have S3e : s3 = mkB (M2 ++ (tTo ++ (payB R b.payee b.flags ++ [10]))) := S3.out
  obtain ⟨M3, hL3⟩ : ∃ L : L8, L = M2 ++ (tTo ++ (payB R b.payee b.flags ++ [10])) := ⟨_, rfl⟩
  rw [← hL3] at S3e
  replace S3 := Lib.hid S3e
  have HL3 := Lib.hid hL3
  clear S3e hL3
  have RB3 := Lib.hid (RB2.out.next bc)
  have X3 := Lib.hid (X2.out.next bc)
  have BW3 := Lib.hid (chain BW2.out bc)
  clear bc
  go_upto_region 12 with fail
  go_cut [7] (fun v wx => ∃ s : B, v = .string s ∧ Hid (s = mkB (M3 ++ (dec b.sum ++ 32 :: curN R b.cur))) ∧ s.size ≤ 30000 ∧ Below wc.heap.size wc wx)
  case first =>
    as_aux_lemma =>
    have D0 : Hid (Below wc.heap.size wc wc.drew) := (Below.refl _ _).drew
    refine wp_region_held_drew (S := Below wc.heap.size wc) (by kernel_rfl) ?_ (fun hHeld => ?_)
    · exact D0.out
    refine swap_ops (ops' := rt12Ops) (by kernel_rfl) ?_
    refine wpAnyH_take (v := ?_) rt12_0 rt12_none (by kernel_rfl) (by kernel_rfl) (fun _ _ _ h => h) (Or.inl ⟨by rfl, ?_⟩) (by assumption) ?_
    rotate_left
    · intro wz hSw
      clear hSw
      go_simp
      try rw [if_neg (by omega)]
      try with_reducible rfl
    try simp only [Act.put, lyA, lyB, lyC]
    refine wpAnyH_take (v := ?_) rt12_1 rt12_none (by kernel_rfl) (by kernel_rfl) (fun _ _ _ h => h) (Or.inl ⟨by rfl, ?_⟩) (by assumption) ?_
    rotate_left
    · intro wz hSw
      clear hSw
      go_simp
      try rw [if_neg (by omega)]
      try with_reducible rfl
    try simp only [Act.put, lyA, lyB, lyC]
    refine wpAnyH_take (v := ?_) rt12_2 rt12_none (by kernel_rfl) (by kernel_rfl) (fun _ _ _ h => h) (Or.inl ⟨by rfl, ?_⟩) (by assumption) ?_
    rotate_left
    · intro wz hSw
      have xz := X3.out.next hSw
      have x3 := xz.at (i := 3) rfl
      clear xz
      clear hSw
      go_simp
      try rw [if_neg (by omega)]
      try with_reducible rfl
    try simp only [Act.put, lyA, lyB, lyC]
    refine wpAnyH_take (v := ?_) rt12_6 rt12_none (by kernel_rfl) (by kernel_rfl) (fun _ _ _ h => h) (Or.inl ⟨by rfl, ?_⟩) (by assumption) ?_
    rotate_left
    · intro wz hSw
      clear hSw
      go_simp
      try rw [if_neg (by omega)]
      try with_reducible rfl
    try simp only [Act.put, lyA, lyB, lyC]
    refine wpAnyH_take (v := ?_) rt12_7 rt12_none (by kernel_rfl) (by kernel_rfl) (fun _ _ _ h => h) (Or.inl ⟨by rfl, ?_⟩) (by assumption) ?_
    rotate_left
    · intro wz hSw
      have kz := RB3.out.next hSw
      have k0 := kz.b0
      clear kz
      clear hSw
      go_simp
      try rw [if_neg (by omega)]
      try with_reducible rfl
    try simp only [Act.put, lyA, lyB, lyC]
    refine wpAnyH_take (v := ?_) rt12_8 rt12_none (by kernel_rfl) (by kernel_rfl) (fun _ _ _ h => h) (Or.inl ⟨by rfl, ?_⟩) (by assumption) ?_
    rotate_left
    · intro wz hSw
      clear hSw
      go_simp
      try rw [if_neg (by omega)]
      try with_reducible rfl
    try simp only [Act.put, lyA, lyB, lyC]
    refine wpAnyH_take (v := ?_) rt12_9 rt12_none (by kernel_rfl) (by kernel_rfl) (fun _ _ _ h => h) (Or.inl ⟨by rfl, ?_⟩) (by assumption) ?_
    rotate_left
    · intro wz hSw
      have xz := X3.out.next hSw
      have x4 := xz.at (i := 4) rfl
      clear xz
      clear hSw
      go_simp
      try rw [if_neg (by omega)]
      try with_reducible rfl
    try simp only [Act.put, lyA, lyB, lyC]
    refine wpAnyH_take (v := ?_) rt12_10 rt12_none (by kernel_rfl) (by kernel_rfl) (fun _ _ _ h => h) (Or.inl ⟨by rfl, ?_⟩) (by assumption) ?_
    rotate_left
    · intro wz hSw
      clear hSw
      go_simp
      try rw [if_neg (by omega)]
      try with_reducible rfl
    try simp only [Act.put, lyA, lyB, lyC]
    refine wpAnyH_take (v := ?_) rt12_11 rt12_none (by kernel_rfl) (by kernel_rfl) (fun _ _ _ h => h) (Or.inl ⟨by rfl, ?_⟩) (by assumption) ?_
    rotate_left
    · intro wz hSw
      have mcur : wz.cell? ⟨bU, oU + b.cur.toNat, none⟩ = some (.string nu) := cell_up (chain BW3.out hSw) (by have := HU.out _ _ Ecur.out 0 _ rfl; rw [Nat.mul_one, Nat.add_zero] at this; exact this)
      clear hSw
      go_simp
      try rw [if_neg (by omega)]
      try with_reducible rfl
    try simp only [Act.put, lyA, lyB, lyC]
    refine wpAnyH_ready (rs := [3]) (by kernel_rfl) (by simp) (AllReadyH.cons rt12_3 (fun K hK => ?_) AllReadyH.nil)
    rw [if_pos (by rfl)]
    go_simp
    (go_at_call 47; refine (RDecimal_x b.sum _ (by omega) (by omega)).mono ?_; rintro r wy ⟨rfl, rfl⟩)
    try go_wp2_with fail
    obtain ⟨s40, S40⟩ : ∃ s : B, s = mkB (dec b.sum) := ⟨_, rfl⟩
    rw [← S40]
    have z40 : s40.size ≤ 1000 := by rw [S40]; exact dec_sz (by omega)
    replace S40 := Lib.hid S40
    refine hK.out _ _ ?_ (fun hHeld => ?_)
    · exact D0.out
    clear hK K
    try simp only [Act.put, lyA, lyB, lyC]
    refine wpAnyH_take (v := ?_) rt12_4 rt12_none (by kernel_rfl) (by kernel_rfl) (fun _ _ _ h => h) (Or.inl ⟨by rfl, ?_⟩) (by assumption) ?_
    rotate_left
    · intro wz hSw
      clear hSw
      go_simp
      try rw [if_neg (by omega)]
      try with_reducible rfl
    try simp only [Act.put, lyA, lyB, lyC]
    refine wpAnyH_take (v := ?_) rt12_5 rt12_none (by kernel_rfl) (by kernel_rfl) (fun _ _ _ h => h) (Or.inl ⟨by rfl, ?_⟩) (by assumption) ?_
    rotate_left
    · intro wz hSw
      clear hSw
      go_simp
      try rw [if_neg (by omega)]
      try with_reducible rfl
    try simp only [Act.put, lyA, lyB, lyC]
    refine wpAnyH_take (v := ?_) rt12_12 rt12_none (by kernel_rfl) (by kernel_rfl) (fun _ _ _ h => h) (Or.inl ⟨by rfl, ?_⟩) (by assumption) ?_
    rotate_left
    · intro wz hSw
      clear hSw
      go_simp
      try rw [if_neg (by omega)]
      try with_reducible rfl
    try simp only [Act.put, lyA, lyB, lyC]
    refine wpAnyH_take (v := ?_) rt12_13 rt12_none (by kernel_rfl) (by kernel_rfl) (fun _ _ _ h => h) (Or.inl ⟨by rfl, ?_⟩) (by assumption) ?_
    rotate_left
    · intro wz hSw
      clear hSw
      go_simp
      try rw [if_neg (by omega)]
      try with_reducible rfl
    try simp only [Act.put, lyA, lyB, lyC]
    refine wpAnyH_done (by kernel_rfl) ?_ _
    go_wp2_with fail
    go_meet
    refine ⟨_, rfl, ?_, ?_, D0.out⟩
    · show s3 ++ s40 ++ ⟨#[32]⟩ ++ nu = _
      rw [S3.out, S40.out, ← mkB_of nu, ← Vcur.out]
      show mkB M3 ++ mkB (dec b.sum) ++ mkB [32] ++ mkB (curN R b.cur) = _
      rw [mkB_app, mkB_app, mkB_app]
      refine congrArg mkB ?_
      simp only [List.append_assoc, List.cons_append, List.nil_append]
    · show (s3 ++ s40 ++ ⟨#[32]⟩ ++ nu).size ≤ _
      simp only [ByteArray.size_append]
      have e0 : (⟨#[32]⟩ : B).size = 1 := rfl
      omega
  case rest =>
  obtain ⟨s4, rfl, S4, z4, bc⟩ := hcut
  have S4e : s4 = mkB (M3 ++ (dec b.sum ++ 32 :: curN R b.cur)) := S4.out
  obtain ⟨M4, hL4⟩ : ∃ L : L8, L = M3 ++ (dec b.sum ++ 32 :: curN R b.cur) := ⟨_, rfl⟩
  rw [← hL4] at S4e
  replace S4 := Lib.hid S4e
  have HL4 := Lib.hid hL4
  clear S4e hL4
  have RB4 := Lib.hid (RB3.out.next bc)
  have X4 := Lib.hid (X3.out.next bc)
  have BW4 := Lib.hid (chain BW3.out bc)
  clear bc
  have xp := X4.out.at (i := 12) rfl
  go_upto_if 98 with fail
  clear xp
  go_cut [7] (fun v wx => ∃ s : B, v = .string s ∧ Hid (s = mkB (M4 ++ intB b.rate)) ∧ s.size ≤ 40000 ∧ Below wc.heap.size wc wx)
  case first =>
    as_aux_lemma =>
    by_cases q5 : b.rate = 0
    · have Q5 := Lib.hid q5
      have q6 : ¬ 0 < b.rate := by omega
      have q7 : decide (0 < b.rate) = false := decide_eq_false q6
      clear q5
      have x12 := X4.out.at (i := 12) rfl
      go_wp2_with fail
      go_meet
      exact ⟨s4, rfl, by show _ = _; rw [show intB b.rate = [] by unfold intB; rw [if_pos Q5.out], List.append_nil]; exact S4.out, by omega, Below.refl _ _⟩
    · have Q5 := Lib.hid q5
      have q6 : 0 < b.rate := by have := hrate.1; omega
      have q7 : decide (0 < b.rate) = true := decide_eq_true q6
      have x12 := X4.out.at (i := 12) rfl
      go_wp2_with fail
      clear x12
      refine (RDecimal_x b.rate _ (by omega) (by omega)).mono ?_
      rintro r wx ⟨rfl, rfl⟩
      obtain ⟨s50, S50⟩ : ∃ s : B, s = mkB (dec b.rate) := ⟨_, rfl⟩
      rw [← S50]
      have z50 : s50.size ≤ 1000 := by rw [S50]; exact dec_sz (by omega)
      replace S50 := Lib.hid S50
      go_wp2_with fail
      go_meet
      refine ⟨_, rfl, ?_, ?_, Below.refl _ _⟩
      · show s4 ++ ⟨#[32, 119, 105, 116, 104, 32, 105, 110, 116, 101, 114, 101, 115, 116, 32, 97, 116, 32]⟩ ++ s50 ++ ⟨#[32, 112, 101, 114, 32, 109, 105, 108, 108, 101]⟩ = _
        rw [S4.out, S50.out]
        show mkB M4 ++ mkB tInt ++ mkB (dec b.rate) ++ mkB tMille = _
        rw [mkB_app, mkB_app, mkB_app]
        refine congrArg mkB ?_
        rw [show intB b.rate = tInt ++ dec b.rate ++ tMille by unfold intB; rw [if_neg Q5.out]]
        simp only [List.append_assoc, List.cons_append, List.nil_append]
      · show (s4 ++ ⟨#[32, 119, 105, 116, 104, 32, 105, 110, 116, 101, 114, 101, 115, 116, 32, 97, 116, 32]⟩ ++ s50 ++ ⟨#[32, 112, 101, 114, 32, 109, 105, 108, 108, 101]⟩).size ≤ _
        simp only [ByteArray.size_append]
        have e0 : (⟨#[32, 119, 105, 116, 104, 32, 105, 110, 116, 101, 114, 101, 115, 116, 32, 97, 116, 32]⟩ : B).size = 18 := rfl
        have e1 : (⟨#[32, 112, 101, 114, 32, 109, 105, 108, 108, 101]⟩ : B).size = 10 := rfl
        omega
  case rest =>
  obtain ⟨s5, rfl, S5, z5, bc⟩ := hcut
  have S5e : s5 = mkB (M4 ++ intB b.rate) := S5.out
  obtain ⟨M5, hL5⟩ : ∃ L : L8, L = M4 ++ intB b.rate := ⟨_, rfl⟩
  rw [← hL5] at S5e
  replace S5 := Lib.hid S5e
  have HL5 := Lib.hid hL5
  clear S5e hL5
  have RB5 := Lib.hid (RB4.out.next bc)
  have X5 := Lib.hid (X4.out.next bc)
  have BW5 := Lib.hid (chain BW4.out bc)
  clear bc
  go_upto_region 15 with fail
  go_cut [7] (fun v wx => ∃ s : B, v = .string s ∧ Hid (s = mkB (M5 ++ (10 :: tBy ++ firmN R b.drawee ++ tIn ++ cityN R b.pay ++ [10]))) ∧ s.size ≤ 50000 ∧ Below wc.heap.size wc wx)
  case first =>
    as_aux_lemma =>
    have D0 : Hid (Below wc.heap.size wc wc.drew) := (Below.refl _ _).drew
    refine wp_region_held_drew (S := Below wc.heap.size wc) (by kernel_rfl) ?_ (fun hHeld => ?_)
    · exact D0.out
    refine swap_ops (ops' := rt15Ops) (by kernel_rfl) ?_
    refine wpAnyH_take (v := ?_) rt15_0 rt15_none (by kernel_rfl) (by kernel_rfl) (fun _ _ _ h => h) (Or.inl ⟨by rfl, ?_⟩) (by assumption) ?_
    rotate_left
    · intro wz hSw
      clear hSw
      go_simp
      try rw [if_neg (by omega)]
      try with_reducible rfl
    try simp only [Act.put, lyA, lyB, lyC]
    refine wpAnyH_take (v := ?_) rt15_1 rt15_none (by kernel_rfl) (by kernel_rfl) (fun _ _ _ h => h) (Or.inl ⟨by rfl, ?_⟩) (by assumption) ?_
    rotate_left
    · intro wz hSw
      clear hSw
      go_simp
      try rw [if_neg (by omega)]
      try with_reducible rfl
    try simp only [Act.put, lyA, lyB, lyC]
    refine wpAnyH_take (v := ?_) rt15_2 rt15_none (by kernel_rfl) (by kernel_rfl) (fun _ _ _ h => h) (Or.inl ⟨by rfl, ?_⟩) (by assumption) ?_
    rotate_left
    · intro wz hSw
      clear hSw
      go_simp
      try rw [if_neg (by omega)]
      try with_reducible rfl
    try simp only [Act.put, lyA, lyB, lyC]
    refine wpAnyH_take (v := ?_) rt15_3 rt15_none (by kernel_rfl) (by kernel_rfl) (fun _ _ _ h => h) (Or.inl ⟨by rfl, ?_⟩) (by assumption) ?_
    rotate_left
    · intro wz hSw
      have kz := RB5.out.next hSw
      have k3 := kz.b3
      clear kz
      clear hSw
      go_simp
      try rw [if_neg (by omega)]
      try with_reducible rfl
    try simp only [Act.put, lyA, lyB, lyC]
    refine wpAnyH_take (v := ?_) rt15_4 rt15_none (by kernel_rfl) (by kernel_rfl) (fun _ _ _ h => h) (Or.inl ⟨by rfl, ?_⟩) (by assumption) ?_
    rotate_left
    · intro wz hSw
      clear hSw
      go_simp
      try rw [if_neg (by omega)]
      try with_reducible rfl
    try simp only [Act.put, lyA, lyB, lyC]
    refine wpAnyH_take (v := ?_) rt15_5 rt15_none (by kernel_rfl) (by kernel_rfl) (fun _ _ _ h => h) (Or.inl ⟨by rfl, ?_⟩) (by assumption) ?_
    rotate_left
    · intro wz hSw
      have xz := X5.out.next hSw
      have x1 := xz.at (i := 1) rfl
      clear xz
      clear hSw
      go_simp
      try rw [if_neg (by omega)]
      try with_reducible rfl
    try simp only [Act.put, lyA, lyB, lyC]
    refine wpAnyH_take (v := ?_) rt15_6 rt15_none (by kernel_rfl) (by kernel_rfl) (fun _ _ _ h => h) (Or.inl ⟨by rfl, ?_⟩) (by assumption) ?_
    rotate_left
    · intro wz hSw
      clear hSw
      go_simp
      try rw [if_neg (by omega)]
      try with_reducible rfl
    try simp only [Act.put, lyA, lyB, lyC]
    refine wpAnyH_take (v := ?_) rt15_7 rt15_none (by kernel_rfl) (by kernel_rfl) (fun _ _ _ h => h) (Or.inl ⟨by rfl, ?_⟩) (by assumption) ?_
    rotate_left
    · intro wz hSw
      clear hSw
      go_simp
      try rw [if_neg (by omega)]
      try with_reducible rfl
    try simp only [Act.put, lyA, lyB, lyC]
    refine wpAnyH_take (v := ?_) rt15_8 rt15_none (by kernel_rfl) (by kernel_rfl) (fun _ _ _ h => h) (Or.inl ⟨by rfl, ?_⟩) (by assumption) ?_
    rotate_left
    · intro wz hSw
      have mdrawee : wz.cell? ⟨bF, oF + b.drawee.toNat * 3, none⟩ = some (.string nd.nm) := cell_up (chain BW5.out hSw) (HF.out _ _ Edrawee.out 0 _ rfl)
      clear hSw
      go_simp
      try rw [if_neg (by omega)]
      try with_reducible rfl
    try simp only [Act.put, lyA, lyB, lyC]
    refine wpAnyH_take (v := ?_) rt15_9 rt15_none (by kernel_rfl) (by kernel_rfl) (fun _ _ _ h => h) (Or.inl ⟨by rfl, ?_⟩) (by assumption) ?_
    rotate_left
    · intro wz hSw
      clear hSw
      go_simp
      try rw [if_neg (by omega)]
      try with_reducible rfl
    try simp only [Act.put, lyA, lyB, lyC]
    refine wpAnyH_take (v := ?_) rt15_10 rt15_none (by kernel_rfl) (by kernel_rfl) (fun _ _ _ h => h) (Or.inl ⟨by rfl, ?_⟩) (by assumption) ?_
    rotate_left
    · intro wz hSw
      clear hSw
      go_simp
      try rw [if_neg (by omega)]
      try with_reducible rfl
    try simp only [Act.put, lyA, lyB, lyC]
    refine wpAnyH_take (v := ?_) rt15_11 rt15_none (by kernel_rfl) (by kernel_rfl) (fun _ _ _ h => h) (Or.inl ⟨by rfl, ?_⟩) (by assumption) ?_
    rotate_left
    · intro wz hSw
      clear hSw
      go_simp
      try rw [if_neg (by omega)]
      try with_reducible rfl
    try simp only [Act.put, lyA, lyB, lyC]
    refine wpAnyH_take (v := ?_) rt15_12 rt15_none (by kernel_rfl) (by kernel_rfl) (fun _ _ _ h => h) (Or.inl ⟨by rfl, ?_⟩) (by assumption) ?_
    rotate_left
    · intro wz hSw
      have kz := RB5.out.next hSw
      have k1 := kz.b1
      clear kz
      clear hSw
      go_simp
      try rw [if_neg (by omega)]
      try with_reducible rfl
    try simp only [Act.put, lyA, lyB, lyC]
    refine wpAnyH_take (v := ?_) rt15_13 rt15_none (by kernel_rfl) (by kernel_rfl) (fun _ _ _ h => h) (Or.inl ⟨by rfl, ?_⟩) (by assumption) ?_
    rotate_left
    · intro wz hSw
      clear hSw
      go_simp
      try rw [if_neg (by omega)]
      try with_reducible rfl
    try simp only [Act.put, lyA, lyB, lyC]
    refine wpAnyH_take (v := ?_) rt15_14 rt15_none (by kernel_rfl) (by kernel_rfl) (fun _ _ _ h => h) (Or.inl ⟨by rfl, ?_⟩) (by assumption) ?_
    rotate_left
    · intro wz hSw
      have xz := X5.out.next hSw
      have x10 := xz.at (i := 10) rfl
      clear xz
      clear hSw
      go_simp
      try rw [if_neg (by omega)]
      try with_reducible rfl
    try simp only [Act.put, lyA, lyB, lyC]
    refine wpAnyH_take (v := ?_) rt15_15 rt15_none (by kernel_rfl) (by kernel_rfl) (fun _ _ _ h => h) (Or.inl ⟨by rfl, ?_⟩) (by assumption) ?_
    rotate_left
    · intro wz hSw
      clear hSw
      go_simp
      try rw [if_neg (by omega)]
      try with_reducible rfl
    try simp only [Act.put, lyA, lyB, lyC]
    refine wpAnyH_take (v := ?_) rt15_16 rt15_none (by kernel_rfl) (by kernel_rfl) (fun _ _ _ h => h) (Or.inl ⟨by rfl, ?_⟩) (by assumption) ?_
    rotate_left
    · intro wz hSw
      clear hSw
      go_simp
      try rw [if_neg (by omega)]
      try with_reducible rfl
    try simp only [Act.put, lyA, lyB, lyC]
    refine wpAnyH_take (v := ?_) rt15_17 rt15_none (by kernel_rfl) (by kernel_rfl) (fun _ _ _ h => h) (Or.inl ⟨by rfl, ?_⟩) (by assumption) ?_
    rotate_left
    · intro wz hSw
      have mpay : wz.cell? ⟨bC, oC + b.pay.toNat * 6, none⟩ = some (.string np.nm) := cell_up (chain BW5.out hSw) (HC.out _ _ Epay.out 0 _ rfl)
      clear hSw
      go_simp
      try rw [if_neg (by omega)]
      try with_reducible rfl
    try simp only [Act.put, lyA, lyB, lyC]
    refine wpAnyH_take (v := ?_) rt15_18 rt15_none (by kernel_rfl) (by kernel_rfl) (fun _ _ _ h => h) (Or.inl ⟨by rfl, ?_⟩) (by assumption) ?_
    rotate_left
    · intro wz hSw
      clear hSw
      go_simp
      try rw [if_neg (by omega)]
      try with_reducible rfl
    try simp only [Act.put, lyA, lyB, lyC]
    refine wpAnyH_take (v := ?_) rt15_19 rt15_none (by kernel_rfl) (by kernel_rfl) (fun _ _ _ h => h) (Or.inl ⟨by rfl, ?_⟩) (by assumption) ?_
    rotate_left
    · intro wz hSw
      clear hSw
      go_simp
      try rw [if_neg (by omega)]
      try with_reducible rfl
    try simp only [Act.put, lyA, lyB, lyC]
    refine wpAnyH_take (v := ?_) rt15_20 rt15_none (by kernel_rfl) (by kernel_rfl) (fun _ _ _ h => h) (Or.inl ⟨by rfl, ?_⟩) (by assumption) ?_
    rotate_left
    · intro wz hSw
      clear hSw
      go_simp
      try rw [if_neg (by omega)]
      try with_reducible rfl
    try simp only [Act.put, lyA, lyB, lyC]
    refine wpAnyH_done (by kernel_rfl) ?_ _
    go_wp2_with fail
    go_meet
    refine ⟨_, rfl, ?_, ?_, D0.out⟩
    · show s5 ++ ⟨#[10, 116, 111, 32, 98, 101, 32, 112, 97, 105, 100, 32, 98, 121, 32]⟩ ++ nd.nm ++ ⟨#[32, 105, 110, 32]⟩ ++ np.nm ++ ⟨#[10]⟩ = _
      rw [S5.out, ← mkB_of nd.nm, ← Vdrawee.out, ← mkB_of np.nm, ← Vpay.out]
      show mkB M5 ++ mkB (10 :: tBy) ++ mkB (firmN R b.drawee) ++ mkB tIn ++ mkB (cityN R b.pay) ++ mkB [10] = _
      rw [mkB_app, mkB_app, mkB_app, mkB_app, mkB_app]
      refine congrArg mkB ?_
      simp only [List.append_assoc, List.cons_append, List.nil_append]
    · show (s5 ++ ⟨#[10, 116, 111, 32, 98, 101, 32, 112, 97, 105, 100, 32, 98, 121, 32]⟩ ++ nd.nm ++ ⟨#[32, 105, 110, 32]⟩ ++ np.nm ++ ⟨#[10]⟩).size ≤ _
      simp only [ByteArray.size_append]
      have e0 : (⟨#[10, 116, 111, 32, 98, 101, 32, 112, 97, 105, 100, 32, 98, 121, 32]⟩ : B).size = 15 := rfl
      have e1 : (⟨#[32, 105, 110, 32]⟩ : B).size = 4 := rfl
      have e2 : (⟨#[10]⟩ : B).size = 1 := rfl
      omega
  case rest =>
  obtain ⟨s6, rfl, S6, z6, bc⟩ := hcut
  have S6e : s6 = mkB (M5 ++ (10 :: tBy ++ firmN R b.drawee ++ tIn ++ cityN R b.pay ++ [10])) := S6.out
  obtain ⟨M6, hL6⟩ : ∃ L : L8, L = M5 ++ (10 :: tBy ++ firmN R b.drawee ++ tIn ++ cityN R b.pay ++ [10]) := ⟨_, rfl⟩
  rw [← hL6] at S6e
  replace S6 := Lib.hid S6e
  have HL6 := Lib.hid hL6
  clear S6e hL6
  have RB6 := Lib.hid (RB5.out.next bc)
  have X6 := Lib.hid (X5.out.next bc)
  have BW6 := Lib.hid (chain BW5.out bc)
  clear bc
  have xp := X6.out.at (i := 14) rfl
  go_upto_if 128 with fail
  clear xp
  go_cut [7] (fun v wx => ∃ s : B, v = .string s ∧ Hid (s = mkB (M6 ++ (if 1 < b.parts then tUnless ++ othB b.parts p ++ tWas ++ [10] else []))) ∧ s.size ≤ 60000 ∧ Below wc.heap.size wc wx)
  case first =>
    as_aux_lemma =>
    by_cases q5 : 1 < b.parts
    · have Q5 := Lib.hid q5
      have q7 : decide (1 < b.parts) = true := decide_eq_true q5
      have x14 := X6.out.at (i := 14) rfl
      go_wp2_with fail
      clear x14
      refine (Rothers_x b.parts p _ (by omega) (by omega) hp0).mono ?_
      rintro r wx ⟨rfl, rfl⟩
      obtain ⟨s70, S70⟩ : ∃ s : B, s = mkB (othB b.parts p) := ⟨_, rfl⟩
      rw [← S70]
      have z70 : s70.size ≤ 1000 := by rw [S70]; exact oth_sz hparts
      replace S70 := Lib.hid S70
      go_wp2_with fail
      go_meet
      refine ⟨_, rfl, ?_, ?_, Below.refl _ _⟩
      · show s6 ++ ⟨#[117, 110, 108, 101, 115, 115, 32, 112, 97, 114, 116, 32]⟩ ++ s70 ++ ⟨#[32, 119, 97, 115, 32, 112, 97, 105, 100, 10]⟩ = _
        rw [S6.out, S70.out]
        show mkB M6 ++ mkB tUnless ++ mkB (othB b.parts p) ++ mkB (tWas ++ [10]) = _
        rw [mkB_app, mkB_app, mkB_app]
        refine congrArg mkB ?_
        rw [if_pos Q5.out]
        simp only [List.append_assoc, List.cons_append, List.nil_append]
      · show (s6 ++ ⟨#[117, 110, 108, 101, 115, 115, 32, 112, 97, 114, 116, 32]⟩ ++ s70 ++ ⟨#[32, 119, 97, 115, 32, 112, 97, 105, 100, 10]⟩).size ≤ _
        simp only [ByteArray.size_append]
        have e0 : (⟨#[117, 110, 108, 101, 115, 115, 32, 112, 97, 114, 116, 32]⟩ : B).size = 12 := rfl
        have e1 : (⟨#[32, 119, 97, 115, 32, 112, 97, 105, 100, 10]⟩ : B).size = 10 := rfl
        omega
    · have Q5 := Lib.hid q5
      have q6 : b.parts ≤ 1 := by omega
      have q7 : decide (1 < b.parts) = false := decide_eq_false q5
      have x14 := X6.out.at (i := 14) rfl
      go_wp2_with fail
      go_meet
      exact ⟨s6, rfl, by show _ = _; rw [if_neg (by have := Q5.out; omega), List.append_nil]; exact S6.out, by omega, Below.refl _ _⟩
  case rest =>
  obtain ⟨s7, rfl, S7, z7, bc⟩ := hcut
  have S7e : s7 = mkB (M6 ++ (if 1 < b.parts then tUnless ++ othB b.parts p ++ tWas ++ [10] else [])) := S7.out
  obtain ⟨M7, hL7⟩ : ∃ L : L8, L = M6 ++ (if 1 < b.parts then tUnless ++ othB b.parts p ++ tWas ++ [10] else []) := ⟨_, rfl⟩
  rw [← hL7] at S7e
  replace S7 := Lib.hid S7e
  have HL7 := Lib.hid hL7
  clear S7e hL7
  have RB7 := Lib.hid (RB6.out.next bc)
  have X7 := Lib.hid (X6.out.next bc)
  have BW7 := Lib.hid (chain BW6.out bc)
  clear bc
  have xp := X7.out.at (i := 11) rfl
  go_upto_if 139 with fail
  clear xp
  go_cut [7] (fun v wx => ∃ s : B, v = .string s ∧ Hid (s = mkB (M7 ++ (if b.need = -1 then [] else tNeed ++ firmN R b.need ++ [10]))) ∧ s.size ≤ 70000 ∧ Below wc.heap.size wc wx)
  case first =>
    as_aux_lemma =>
    by_cases q5 : b.need = -1
    · have Q5 := Lib.hid q5
      have q6 : (b.need == -1) = true := beq_iff_eq.2 q5
      have q7 : (b.need != -1) = false := by rw [bne, q6]; rfl
      clear q5
      have x11 := X7.out.at (i := 11) rfl
      go_wp2_with fail
      go_meet
      exact ⟨s7, rfl, by show _ = _; rw [if_pos Q5.out, List.append_nil]; exact S7.out, by omega, Below.refl _ _⟩
    · have Q5 := Lib.hid q5
      have q6 : (b.need == -1) = false := beq_eq_false_iff_ne.2 q5
      have q7 : (b.need != -1) = true := bne_iff_ne.2 q5
      obtain ⟨nn, eneed⟩ : ∃ x, R.firms[b.need.toNat]? = some x := ⟨_, List.getElem?_eq_getElem (by have := ix_iff.1 (hneed.out.resolve_left q5); omega)⟩
      have Eneed := Lib.hid eneed
      have zneed : nn.nm.size ≤ 20 := firm_sz hrealm.out eneed
      have Vneed : Hid (firmN R b.need = nn.nm.data.toList) := by show firmN R _ = _; unfold firmN; rw [eneed]
      have ineed0 : (0 : Int) ≤ b.need := (ix_iff.1 (hneed.out.resolve_left q5)).1
      have ineed1 : b.need < (R.firms.length : Int) := (ix_iff.1 (hneed.out.resolve_left q5)).2
      clear eneed
      clear q5
      have x11 := X7.out.at (i := 11) rfl
      have k3 := RB7.out.b3
      have mneed : wc.cell? ⟨bF, oF + b.need.toNat * 3, none⟩ = some (.string nn.nm) := cell_up BW7.out (HF.out _ _ Eneed.out 0 _ rfl)
      go_wp2_with fail
      go_meet
      refine ⟨_, rfl, ?_, ?_, Below.refl _ _⟩
      · show s7 ++ ⟨#[105, 110, 32, 110, 101, 101, 100, 32, 97, 115, 107, 32]⟩ ++ nn.nm ++ ⟨#[10]⟩ = _
        rw [S7.out, ← mkB_of nn.nm, ← Vneed.out]
        show mkB M7 ++ mkB tNeed ++ mkB (firmN R b.need) ++ mkB [10] = _
        rw [mkB_app, mkB_app, mkB_app]
        refine congrArg mkB ?_
        rw [if_neg Q5.out]
        simp only [List.append_assoc, List.cons_append, List.nil_append]
      · show (s7 ++ ⟨#[105, 110, 32, 110, 101, 101, 100, 32, 97, 115, 107, 32]⟩ ++ nn.nm ++ ⟨#[10]⟩).size ≤ _
        simp only [ByteArray.size_append]
        have e0 : (⟨#[105, 110, 32, 110, 101, 101, 100, 32, 97, 115, 107, 32]⟩ : B).size = 12 := rfl
        have e1 : (⟨#[10]⟩ : B).size = 1 := rfl
        omega
  case rest =>
  obtain ⟨s8, rfl, S8, z8, bc⟩ := hcut
  have S8e : s8 = mkB (M7 ++ (if b.need = -1 then [] else tNeed ++ firmN R b.need ++ [10])) := S8.out
  obtain ⟨M8, hL8⟩ : ∃ L : L8, L = M7 ++ (if b.need = -1 then [] else tNeed ++ firmN R b.need ++ [10]) := ⟨_, rfl⟩
  rw [← hL8] at S8e
  replace S8 := Lib.hid S8e
  have HL8 := Lib.hid hL8
  clear S8e hL8
  have RB8 := Lib.hid (RB7.out.next bc)
  have X8 := Lib.hid (X7.out.next bc)
  have BW8 := Lib.hid (chain BW7.out bc)
  clear bc
  have xp := X8.out.at (i := 13) rfl
  have hb2 := (bit_and hflags.1 hflags.2).2.1
  go_upto_if 154 with fail
  clear xp hb2
  go_cut [7] (fun v wx => ∃ s : B, v = .string s ∧ Hid (s = mkB (M8 ++ (if bit b.flags 2 = true then tWithout ++ [10] else []))) ∧ s.size ≤ 80000 ∧ Below wc.heap.size wc wx)
  case first =>
    as_aux_lemma =>
    have hb2 := (bit_and hflags.1 hflags.2).2.1
    have x13 := X8.out.at (i := 13) rfl
    cases q : bit b.flags 2
    case true =>
      rw [q] at hb2
      have Q := Lib.hid q
      clear q
      go_wp2_with fail
      go_meet
      refine ⟨_, rfl, ?_, ?_, Below.refl _ _⟩
      · show s8 ++ ⟨#[119, 105, 116, 104, 111, 117, 116, 32, 112, 114, 111, 116, 101, 115, 116, 10]⟩ = _
        rw [S8.out]
        show mkB M8 ++ mkB (tWithout ++ [10]) = _
        rw [mkB_app]
        rw [if_pos Q.out]
      · show (s8 ++ ⟨#[119, 105, 116, 104, 111, 117, 116, 32, 112, 114, 111, 116, 101, 115, 116, 10]⟩).size ≤ _
        simp only [ByteArray.size_append]
        have e0 : (⟨#[119, 105, 116, 104, 111, 117, 116, 32, 112, 114, 111, 116, 101, 115, 116, 10]⟩ : B).size = 16 := rfl
        omega
    case false =>
      rw [q] at hb2
      have Q := Lib.hid q
      clear q
      go_wp2_with fail
      go_meet
      exact ⟨s8, rfl, by show _ = _; rw [if_neg (by rw [Q.out]; decide), List.append_nil]; exact S8.out, by omega, Below.refl _ _⟩
  case rest =>
  obtain ⟨s9, rfl, S9, z9, bc⟩ := hcut
  have S9e : s9 = mkB (M8 ++ (if bit b.flags 2 = true then tWithout ++ [10] else [])) := S9.out
  obtain ⟨M9, hL9⟩ : ∃ L : L8, L = M8 ++ (if bit b.flags 2 = true then tWithout ++ [10] else []) := ⟨_, rfl⟩
  rw [← hL9] at S9e
  replace S9 := Lib.hid S9e
  have HL9 := Lib.hid hL9
  clear S9e hL9
  have RB9 := Lib.hid (RB8.out.next bc)
  have X9 := Lib.hid (X8.out.next bc)
  have BW9 := Lib.hid (chain BW8.out bc)
  clear bc
  have x0 := X9.out.at (i := 0) rfl
  have k3 := RB9.out.b3
  have mdrawer : wc.cell? ⟨bF, oF + b.drawer.toNat * 3, none⟩ = some (.string nr.nm) := cell_up BW9.out (HF.out _ _ Edrawer.out 0 _ rfl)
  go_wp2_with fail
  go_ret
  refine ⟨str_eq ?_, BW9.out⟩
  show s9 ++ ⟨#[115, 105, 103, 110, 101, 100, 32]⟩ ++ nr.nm ++ ⟨#[10]⟩ = _
  rw [S9.out, ← mkB_of nr.nm, ← Vdrawer.out]
  show mkB M9 ++ mkB tSigned ++ mkB (firmN R b.drawer) ++ mkB [10] = _
  rw [mkB_app, mkB_app, mkB_app]
  refine congrArg mkB ?_
  rw [HL9.out, HL8.out, HL7.out, HL6.out, HL5.out, HL4.out, HL3.out, HL2.out]
  exact (word_steps R b p).symm
end Go.Proofs.YtcjakgpmompaiaaGreatDoor
