/-
  The program's Open, Next and Plus.
-/
import Derived.Test.YtmlelmknbddkjaaDoorProL
namespace Go.Proofs.YtmlelmknbddkjaaDoor
open Go.RowKit

/-- what officesOf hands back, in words that a walk can use -/
theorem offices_y (nm : ByteArray) (o c : Int) (v3 v4 v5 : Value) (C : Lists) (w : World) (h : CityAt w v3 v4 v5 C) (Z : Array Value) (hZ : offC (fun _ => false) (.slice none 0 0) = Z) :
    Calls Tryd.prog 36 #[cityV nm o c v3 v4 v5] w fun e w' => ∃ Y, e = .returned (.agg Y) ∧ Below w.heap.size w w' ∧
      (Tryd.prog.info? 53).map (·.size) = some Y.size ∧ Z.size = Y.size ∧ Y.all (·.oneCell') = true ∧ (w'.alloc (.cells Z 53)).heap[w'.heap.size]? = some (.cells Z 53 (0, 0)) ∧
      (w'.alloc (.cells Z 53)).setRow w'.heap.size Y = w'.alloc (.cells Y 53) ∧ OfAt (w'.alloc (.cells Y 53)) w'.heap.size C := by
  refine (officesOf_x nm o c v3 v4 v5 C w h).mono ?_
  rintro e w' ⟨sl, rfl, hsl, hb⟩
  have hi := (zero_of_info infoO).2
  refine ⟨_, rfl, hb, by rw [offC_size]; exact hi, by rw [← hZ, offC_size, offC_size], offC_one _ _ hsl.one, World.alloc_heap_new _ _, World.setRow_alloc_new _ _ _ _, ⟨⟨sl, World.alloc_heap_new _ _, hsl.ints.below ((Below.refl _ _).alloc (Nat.le_refl _) _)⟩, h.ls⟩⟩

set_option maxHeartbeats 1600000 in
theorem openP_x (nm : ByteArray) (o c : Int) (v3 v4 v5 : Value) (C : Lists) (t : Int) (w : World) (h : CityAt w v3 v4 v5 C) (hbf : Bf w) :
    Calls Tryd.prog 19 #[cityV nm o c v3 v4 v5, .int .i64 t] w fun e w' => e = .returned (bv (openV C t)) ∧ Below w.heap.size w w' := by
  cases V : valid t with
  | false =>
    have V' := Lib.hid V
    have hv : Hid (openV C t = (false, 3)) := by show _ = _; unfold openV; rw [V]; rfl
    clear V hbf h
    go_enter Tryd.func19, Tryd.ntmps19
    go_wp2_with fail
    refine (isDay_x t _).mono ?_
    rintro e w1 ⟨rfl, rfl⟩
    rw [V'.out]
    go_wp2_with fail
    go_ret2
    exact ⟨by rw [hv.out]; try rfl, (Below.refl _ _).alloc (Nat.le_refl _) _⟩
  | true =>
    have V' := Lib.hid V
    have hb := valid_iff.1 V
    obtain ⟨T, rfl⟩ : ∃ T : Nat, t = T := ⟨t.toNat, by omega⟩
    have hT : Hid (T ≤ 100000) := show _ ≤ _ by omega
    have hv : Hid (openV C (T : Int) = (isOpen C T, 0)) := by show _ = _; unfold openV; rw [V]; rfl
    obtain ⟨hz, hi⟩ := zero_of_info infoO
    obtain ⟨Z, hZ⟩ : ∃ Z, offC (fun _ => false) (.slice none 0 0) = Z := ⟨_, rfl⟩
    rw [hZ] at hz
    have HZ := Lib.hid hZ
    have B0 : Below w.heap.size w (w.alloc (.cells #[.string nm, .int .i64 o, .int .i64 c, v3, v4, v5] 24)) := (Below.refl _ _).alloc (Nat.le_refl _) _
    have HC : Hid (CityAt (w.alloc (.cells #[.string nm, .int .i64 o, .int .i64 c, v3, v4, v5] 24)) v3 v4 v5 C) := h.below B0
    have HF := Lib.hid hbf
    have HB0 := Lib.hid B0
    clear V hbf h hb hi hZ B0
    go_enter Tryd.func19, Tryd.ntmps19
    go_wp2_with fail
    refine (isDay_x _ _).mono ?_
    rintro e w1 ⟨rfl, rfl⟩
    rw [V'.out]
    go_wp2_with fail
    refine (offices_y nm o c v3 v4 v5 C _ HC.out Z HZ.out).mono ?_
    rintro e w2 ⟨Y, rfl, b2, i2, zy, y1, hg, hst, hof⟩
    have Hi := Lib.hid i2
    have Hzy := Lib.hid zy
    have Hy1 := Lib.hid y1
    have Hg := Lib.hid hg
    have Hof := Lib.hid hof
    have HB2 : Hid (Below w.heap.size w (w2.alloc (.cells Y 53))) := chain (chain HB0.out b2) ((Below.refl _ _).alloc (Nat.le_refl _) _)
    have Hst := Lib.hid hst
    clear i2 zy y1 hg hof b2 hst
    go_wp2_with (refine wpList_store_row rfl 53 (.tmp 6) (.tmp 11) rfl w2.heap.size Y rfl rfl 53 Z Hg.out Hi.out Hzy.out Hy1.out ?_)
    rw [Hst.out]
    refine (open_x w2.heap.size T C _ Hof.out (bf_of HF.out HB2.out) hT.out).mono ?_
    rintro e w3 ⟨rfl, q, rfl⟩
    go_wp2_with fail
    go_ret2
    exact ⟨by rw [hv.out]; try rfl, below_drewN HB2.out q⟩

set_option maxHeartbeats 1600000 in
theorem NextP_x (nm : ByteArray) (o c : Int) (v3 v4 v5 : Value) (C : Lists) (t : Int) (w : World) (h : CityAt w v3 v4 v5 C) (hbf : Bf w) :
    Calls Tryd.prog 21 #[cityV nm o c v3 v4 v5, .int .i64 t] w fun e w' => e = .returned (pv (nextV C t)) ∧ Below w.heap.size w w' := by
  obtain ⟨hz, hi⟩ := zero_of_info infoO
  obtain ⟨Z, hZ⟩ : ∃ Z, offC (fun _ => false) (.slice none 0 0) = Z := ⟨_, rfl⟩
  rw [hZ] at hz
  have HZ := Lib.hid hZ
  have B0 : Below w.heap.size w (w.alloc (.cells #[.string nm, .int .i64 o, .int .i64 c, v3, v4, v5] 24)) := (Below.refl _ _).alloc (Nat.le_refl _) _
  have HC : Hid (CityAt (w.alloc (.cells #[.string nm, .int .i64 o, .int .i64 c, v3, v4, v5] 24)) v3 v4 v5 C) := h.below B0
  have HF := Lib.hid hbf
  have HB0 := Lib.hid B0
  clear hbf h hi hZ B0
  go_enter Tryd.func21, Tryd.ntmps21
  go_wp2_with fail
  refine (offices_y nm o c v3 v4 v5 C _ HC.out Z HZ.out).mono ?_
  rintro e w2 ⟨Y, rfl, b2, i2, zy, y1, hg, hst, hof⟩
  have Hi := Lib.hid i2
  have Hzy := Lib.hid zy
  have Hy1 := Lib.hid y1
  have Hg := Lib.hid hg
  have Hof := Lib.hid hof
  have HB2 : Hid (Below w.heap.size w (w2.alloc (.cells Y 53))) := chain (chain HB0.out b2) ((Below.refl _ _).alloc (Nat.le_refl _) _)
  have Hst := Lib.hid hst
  clear i2 zy y1 hg hof b2 hst
  go_wp2_with (refine wpList_store_row rfl 53 (.tmp 6) (.tmp 8) rfl w2.heap.size Y rfl rfl 53 Z Hg.out Hi.out Hzy.out Hy1.out ?_)
  rw [Hst.out]
  refine (nextP_x w2.heap.size C t _ Hof.out (bf_of HF.out HB2.out)).mono ?_
  rintro e w3 ⟨rfl, b3⟩
  simp only [pv]
  have HB3 : Hid (Below w.heap.size w w3) := chain HB2.out b3
  clear b3
  go_wp2_with fail
  go_ret2
  exact ⟨by try rfl, HB3.out⟩

theorem plusN_step {C : Lists} {t u : Int} {n k : Nat} (hk : k < n) (h : plusN C n t = plusN C (n - k) u) : plusN C n t = if (nextV C (u + 1)).2 = 0 then plusN C (n - (k + 1)) (nextV C (u + 1)).1 else (0, 3) := by
  rw [h, show n - k = (n - (k + 1)) + 1 by omega]
  rfl
def PRelP (C : Lists) (t : Int) (n : Nat) (w4 : World) (a i : Value) (wr : World) : Prop := ∃ (k : Nat) (u : Int), k ≤ n ∧ a = .int .i64 u ∧ i = .int .i64 (k : Int) ∧ 0 ≤ u ∧ u ≤ 100000 ∧ plusN C n t = plusN C (n - k) u ∧ Below w4.heap.size w4 wr

set_option maxHeartbeats 3200000 in
theorem PlusP_x (nm : ByteArray) (o c : Int) (v3 v4 v5 : Value) (C : Lists) (t n : Int) (w : World) (h : CityAt w v3 v4 v5 C) (hbf : Bf w) :
    Calls Tryd.prog 23 #[cityV nm o c v3 v4 v5, .int .i64 t, .int .i64 n] w fun e w' => e = .returned (pv (plusV C t n)) ∧ Below w.heap.size w w' := by
  cases V : valid t with
  | false =>
    have V' := Lib.hid V
    have hv : Hid (plusV C t n = (0, 3)) := by show _ = _; unfold plusV; rw [if_neg (by rw [V]; simp)]
    clear V hbf h
    go_enter Tryd.func23, Tryd.ntmps23
    go_wp2_with fail
    refine (isDay_x t _).mono ?_
    rintro e w1 ⟨rfl, rfl⟩
    rw [V'.out]
    go_wp2_with fail
    go_ret2
    exact ⟨by rw [hv.out]; try rfl, (Below.refl _ _).alloc (Nat.le_refl _) _⟩
  | true =>
    have V' := Lib.hid V
    by_cases n0 : n < 0
    · have hv : Hid (plusV C t n = (0, 3)) := by show _ = _; unfold plusV; rw [if_neg (by omega)]
      clear V hbf h
      go_enter Tryd.func23, Tryd.ntmps23
      go_wp2_with fail
      refine (isDay_x t _).mono ?_
      rintro e w1 ⟨rfl, rfl⟩
      rw [V'.out]
      go_wp2_with fail
      go_ret2
      exact ⟨by rw [hv.out]; try rfl, (Below.refl _ _).alloc (Nat.le_refl _) _⟩
    by_cases n1 : 20000 < n
    · have hv : Hid (plusV C t n = (0, 3)) := by show _ = _; unfold plusV; rw [if_neg (by omega)]
      clear V hbf h
      go_enter Tryd.func23, Tryd.ntmps23
      go_wp2_with fail
      refine (isDay_x t _).mono ?_
      rintro e w1 ⟨rfl, rfl⟩
      rw [V'.out]
      go_wp2_with fail
      go_ret2
      exact ⟨by rw [hv.out]; try rfl, (Below.refl _ _).alloc (Nat.le_refl _) _⟩
    obtain ⟨N, rfl⟩ : ∃ N : Nat, n = N := ⟨n.toNat, by omega⟩
    have hb := valid_iff.1 V
    have hv : Hid (plusV C t (N : Int) = plusN C N t) := by show _ = _; unfold plusV; rw [if_pos ⟨V, by omega, by omega⟩, Int.toNat_natCast]
    have t0 : 0 ≤ t := hb.1
    have t1 : t ≤ 100000 := hb.2
    have N0 : (0 : Int) ≤ (N : Int) := by omega
    have N1 : (N : Int) ≤ 20000 := by omega
    have N2 : Hid (N ≤ 20000) := show _ ≤ _ by omega
    obtain ⟨hz, hi⟩ := zero_of_info infoO
    obtain ⟨Z, hZ⟩ : ∃ Z, offC (fun _ => false) (.slice none 0 0) = Z := ⟨_, rfl⟩
    rw [hZ] at hz
    have HZ := Lib.hid hZ
    have B0 : Below w.heap.size w (w.alloc (.cells #[.string nm, .int .i64 o, .int .i64 c, v3, v4, v5] 24)) := (Below.refl _ _).alloc (Nat.le_refl _) _
    have HC : Hid (CityAt (w.alloc (.cells #[.string nm, .int .i64 o, .int .i64 c, v3, v4, v5] 24)) v3 v4 v5 C) := h.below B0
    have HF := Lib.hid hbf
    have HB0 := Lib.hid B0
    clear V hbf h hb hi hZ B0 n0 n1
    go_enter Tryd.func23, Tryd.ntmps23
    go_wp2_with fail
    refine (isDay_x _ _).mono ?_
    rintro e w1 ⟨rfl, rfl⟩
    rw [V'.out]
    go_wp2_with fail
    refine (offices_y nm o c v3 v4 v5 C _ HC.out Z HZ.out).mono ?_
    rintro e w2 ⟨Y, rfl, b2, i2, zy, y1, hg, hst, hof⟩
    have Hi := Lib.hid i2
    have Hzy := Lib.hid zy
    have Hy1 := Lib.hid y1
    have Hg := Lib.hid hg
    have Hof := Lib.hid hof
    have HB2 : Hid (Below w.heap.size w (w2.alloc (.cells Y 53))) := chain (chain HB0.out b2) ((Below.refl _ _).alloc (Nat.le_refl _) _)
    have Hst := Lib.hid hst
    clear i2 zy y1 hg hof b2 hst
    go_wp2_with (refine wpList_store_row rfl 53 (.tmp 8) (.tmp 23) rfl w2.heap.size Y rfl rfl 53 Z Hg.out Hi.out Hzy.out Hy1.out ?_)
    rw [Hst.out]
    obtain ⟨w4, hw4⟩ : ∃ w4, w2.alloc (.cells Y 53) = w4 := ⟨_, rfl⟩
    obtain ⟨b, hb⟩ : ∃ b, w2.heap.size = b := ⟨_, rfl⟩
    rw [hw4] at Hof HB2 ⊢
    rw [hb] at Hof ⊢
    have HF4 : Hid (Bf w4) := bf_of HF.out HB2.out
    clear Hst Hg hw4 hb Hi Hzy Hy1
    go_loopw [1, 25] (fun a i wr => PRelP C t N w4 a i wr) (fun _ i _ => N - (intOf i).toNat)
    case atStart => exact ⟨0, t, Nat.zero_le _, rfl, rfl, t0, t1, rfl, Below.refl _ _⟩
    case round =>
      clear t0 t1
      obtain ⟨k, u, hk, rfl, rfl, u0, u1, hp, hb4⟩ := hrel
      have HB4 := Lib.hid hb4
      have HP := Lib.hid hp
      have k0 : (0 : Int) ≤ (k : Int) := by omega
      clear hb4 hp
      by_cases c : k < N
      · have c0 : (k : Int) < (N : Int) := by omega
        have HX : Hid (Calls Tryd.prog 39 #[.pointer (some ⟨b, 0, none⟩), .int .i64 (u + 1)] wr fun e w' => e = .returned (pv (nextV C (u + 1))) ∧ Below wr.heap.size wr w') := nextP_x b C (u + 1) wr (Hof.out.next HB4.out) (bf_of HF4.out HB4.out)
        have Hs : Hid (plusN C N t = if (nextV C (u + 1)).2 = 0 then plusN C (N - (k + 1)) (nextV C (u + 1)).1 else (0, 3)) := plusN_step c HP.out
        have Hk : Hid (k < N) := show _ < _ from c
        clear hk c
        rcases nextV_two C (u + 1) with ⟨x, hx, -, -, x0, x1, -, -, -⟩ | ⟨hx, -⟩
        · rw [hx] at HX Hs
          simp only [pv] at HX
          go_wp2_with fail
          refine HX.out.mono ?_
          rintro e w5 ⟨rfl, b5⟩
          have HB5 : Hid (Below w4.heap.size w4 w5) := chain HB4.out b5
          clear b5
          go_wp2_with fail
          go_roundw
          case rel => exact ⟨k + 1, x, Hk.out, rfl, by congr 1, x0, x1, by rw [Hs.out]; rfl, HB5.out⟩
          case measure => have := Hk.out; simp [intOf]; omega
        · rw [hx] at HX Hs
          simp only [pv] at HX
          go_wp2_with fail
          refine HX.out.mono ?_
          rintro e w5 ⟨rfl, b5⟩
          have HB5 : Hid (Below w4.heap.size w4 w5) := chain HB4.out b5
          clear b5
          go_wp2_with fail
          go_ret2
          exact ⟨by rw [hv.out, Hs.out]; try rfl, chain HB2.out HB5.out⟩
      · obtain rfl : k = N := by omega
        have Hs : Hid (plusN C k t = (u, 0)) := by show _ = _; rw [HP.out, Nat.sub_self]; rfl
        have c0 : ¬ (k : Int) < (k : Int) := by omega
        clear hk c
        go_wp2_with fail
        go_ret2
        exact ⟨by rw [hv.out, Hs.out]; try rfl, chain HB2.out HB4.out⟩

end Go.Proofs.YtmlelmknbddkjaaDoor
