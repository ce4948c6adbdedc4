/-
  The program's over, give, Right.
-/
import Derived.Test.YtnddfngdlmdmhaaProC
import Derived.Test.YtnddfngdlmdmhaaNumG
namespace Go.Proofs.Ytnddfngdlmdmhaa
open Go.RowKit

/-- the blocks of over: the number's box and the result -/
structure Ov (w : World) (h l : Nat) (W : World) : Prop where
  below : Below w.heap.size w W
  size : w.heap.size + 1 < W.heap.size
  a0 : W.cell? ⟨w.heap.size, 0, none⟩ = some (.int .u64 (h : Int))
  a1 : W.cell? ⟨w.heap.size, 1, none⟩ = some (.int .u64 (l : Int))
  r0 : W.cell? ⟨w.heap.size + 1, 0, none⟩ = some (.int .u64 0)
  r1 : W.cell? ⟨w.heap.size + 1, 1, none⟩ = some (.int .u64 0)
  f : ∀ o, W.frozen? ⟨w.heap.size + 1, o, none⟩ = false
theorem Ov.next {w : World} {h l : Nat} {W W' : World} (k : Ov w h l W) (hb : Below W.heap.size W W') : Ov w h l W' := by
  have s := k.size
  refine ⟨chain k.below hb, by have := hb.size; omega, ?_, ?_, ?_, ?_, fun o => ?_⟩
  · rw [hb.cell (p := ⟨w.heap.size, 0, none⟩) (by show w.heap.size < _; omega)]; exact k.a0
  · rw [hb.cell (p := ⟨w.heap.size, 1, none⟩) (by show w.heap.size < _; omega)]; exact k.a1
  · rw [hb.cell (p := ⟨w.heap.size + 1, 0, none⟩) s]; exact k.r0
  · rw [hb.cell (p := ⟨w.heap.size + 1, 1, none⟩) s]; exact k.r1
  · rw [hb.frozen (p := ⟨w.heap.size + 1, o, none⟩) s]; exact k.f o
theorem Ov.drew {w : World} {h l : Nat} {W : World} (k : Ov w h l W) : Ov w h l W.drew := k.next (Below.drew (Below.refl _ _))
theorem Ov.start (w : World) (h l : Nat) (T : TypeId) : Ov w h l ((w.alloc (.cells #[.int .u64 (h : Int), .int .u64 (l : Int)] T)).alloc (.cells #[.int .u64 0, .int .u64 0] T)) := by
  obtain ⟨_, p1, p2⟩ := (AtU.new w h l T _ rfl).alloc (.cells #[.int .u64 0, .int .u64 0] T)
  obtain ⟨_, r1, r2⟩ := AtU.new (w.alloc (.cells #[.int .u64 (h : Int), .int .u64 (l : Int)] T)) 0 0 T (w.heap.size + 1) (by simp)
  exact ⟨((Below.refl _ _).alloc (Nat.le_refl _) _).alloc (by simp) _, by simp, p1, p2, r1, r2, fun o => World.frozen?_alloc_at _ _ _ _ (by simp)⟩
theorem ov_all {w : World} {h l : Nat} {w' : World} (t : Ov w h l w') : w.heap.size + 1 < w'.heap.size ∧ w'.cell? ⟨w.heap.size, 0, none⟩ = some (.int .u64 (h : Int)) ∧ w'.cell? ⟨w.heap.size, 1, none⟩ = some (.int .u64 (l : Int)) := ⟨t.size, t.a0, t.a1⟩

theorem over_low {h l d : Nat} (hd : 0 < d) (hl : l < 18446744073709551616) : (h * 18446744073709551616 + l) / d % 18446744073709551616 = (h % d * 18446744073709551616 + l) / d := by
  have e : h * 18446744073709551616 + l = d * (h / d * 18446744073709551616) + (h % d * 18446744073709551616 + l) := by
    have := Nat.div_add_mod h d
    conv => lhs; rw [← this]
    rw [Nat.add_mul, Nat.mul_assoc, Nat.add_assoc]
  have hm := Nat.mod_lt h hd
  have hlt : (h % d * 18446744073709551616 + l) / d < 18446744073709551616 := by
    rw [Nat.div_lt_iff_lt_mul hd, Nat.mul_comm 18446744073709551616]
    have : (h % d + 1) * 18446744073709551616 ≤ d * 18446744073709551616 := Nat.mul_le_mul_right _ hm
    omega
  rw [e, Nat.mul_add_div hd, Nat.add_comm, Nat.add_mul_mod_self_right, Nat.mod_eq_of_lt hlt]

set_option maxHeartbeats 3200000 in
set_option maxRecDepth 100000 in
theorem over_x (N d : Nat) (w : World) (hN : N < 340282366920938463463374607431768211456) (h0 : 0 < d) (hd : d < 18446744073709551616) : Calls Try.prog 45 #[wv N, .int .u64 d] w fun e w' => e = .returned (wv (N / d)) ∧ Below w.heap.size w w' := by
  have eN : N / 18446744073709551616 * 18446744073709551616 + N % 18446744073709551616 = N := Nat.div_add_mod' N _
  have hl : N % 18446744073709551616 < 18446744073709551616 := Nat.mod_lt _ (by decide)
  have hh : N / 18446744073709551616 < 18446744073709551616 := by omega
  have r1 : N / d / 18446744073709551616 = N / 18446744073709551616 / d := by rw [Nat.div_div_eq_div_mul, Nat.div_div_eq_div_mul, Nat.mul_comm]
  have r2 := over_low (h := N / 18446744073709551616) h0 hl
  rw [eN] at r2
  show Calls Try.prog 45 #[.agg #[.int .u64 ((N / 18446744073709551616 : Nat) : Int), .int .u64 ((N % 18446744073709551616 : Nat) : Int)], .int .u64 d] w fun e w' => e = .returned (.agg #[.int .u64 ((N / d / 18446744073709551616 : Nat) : Int), .int .u64 ((N / d % 18446744073709551616 : Nat) : Int)]) ∧ Below w.heap.size w w'
  rw [r1, r2]
  clear r1 r2 eN hN
  generalize N / 18446744073709551616 = h at *
  generalize N % 18446744073709551616 = l at *
  have Hd : Hid (∀ w : World, Calls Try.prog 58 #[.int .u64 (h % d : Nat), .int .u64 l, .int .u64 d] w fun e w' => e = .returned (.tuple #[.int .u64 ((h % d * 18446744073709551616 + l) / d : Nat), .int .u64 ((h % d * 18446744073709551616 + l) % d : Nat)]) ∧ Below w.heap.size w w') := fun w => div64_x (h % d) l d w (Nat.mod_lt _ h0) hl hd
  have f0 : ((d : Int) == 0) = false := by simp; omega
  have f1 : IntKind.u64.wrap ((h : Int) % (d : Int)) = ((h % d : Nat) : Int) := by rw [← Int.natCast_emod]; exact wrapU _ (Nat.lt_of_le_of_lt (Nat.mod_le _ _) hh)
  have f2 : IntKind.u64.wrap ((h : Int) / (d : Int)) = ((h / d : Nat) : Int) := by rw [← Int.natCast_ediv]; exact wrapU _ (Nat.lt_of_le_of_lt (Nat.div_le_self _ _) hh)
  obtain ⟨z, hz⟩ : ∃ z, z = h / d := ⟨_, rfl⟩
  rw [← hz] at f2 ⊢
  clear hz
  generalize (h % d * 18446744073709551616 + l) / d = Q at *
  generalize (h % d * 18446744073709551616 + l) % d = R at *
  have f3 : ¬ (d : Int) = 0 := by omega
  have f4 : ¬ d = 0 := by omega
  clear hl hh hd
  have hT : Ov w h l _ := Ov.start w h l 44
  have HT := Lib.hid hT
  have y1 := hT.size
  have y2 := hT.a0
  have y3 := hT.a1
  go_enter Try.func45, Try.ntmps45
  go_wp2_with fail
  clear hT
  have hT : Ov w h l _ := HT.out
  have hT' : Ov w h l _ := HT.out.drew
  go_region_held3 (fun w' => w.heap.size + 1 < w'.heap.size ∧ w'.cell? ⟨w.heap.size, 0, none⟩ = some (.int .u64 (h : Int)) ∧ w'.cell? ⟨w.heap.size, 1, none⟩ = some (.int .u64 (l : Int)))
    (first
      | exact ov_all hT
      | exact ov_all hT'
      | exact ov_all (by assumption))
    (first
      | (go_at_call 58; refine (Hd.out _).mono ?_; rintro e w' ⟨rfl, hb⟩; have hk : Ov w h l w' := Ov.next (by assumption) hb))
  rename_i hHeld
  clear hHeld y1 y2 y3
  have t4 : Ov w h l w' := by assumption
  have y0 := t4.below
  have y1 := t4.size
  have y2 := t4.a0
  have y3 := t4.a1
  have y4 := t4.r0
  have y5 := t4.r1
  have y6 := t4.f 0
  have y7 := t4.f 1
  go_wp2_with fail
  exact bodyPost_ret (v := .agg #[.int .u64 (z : Int), .int .u64 (Q : Int)]) (by simp [results, Try.results45, go_sem, y4, y5]) rfl ⟨rfl, (by repeat (first | exact Below.refl _ _ | assumption | refine below_drewN ?_ _ | refine Below.drew ?_ | refine Below.setCell ?_ (by simp; try omega) _ | refine Below.alloc ?_ (by simp; try omega) _))⟩

/-- the blocks of give: two numbers and the result -/
structure Gi (w : World) (h l i k : Nat) (W : World) : Prop where
  below : Below w.heap.size w W
  size : w.heap.size + 1 + 1 < W.heap.size
  a0 : W.cell? ⟨w.heap.size, 0, none⟩ = some (.int .u64 (h : Int))
  a1 : W.cell? ⟨w.heap.size, 1, none⟩ = some (.int .u64 (l : Int))
  b0 : W.cell? ⟨w.heap.size + 1, 0, none⟩ = some (.int .u64 (i : Int))
  b1 : W.cell? ⟨w.heap.size + 1, 1, none⟩ = some (.int .u64 (k : Int))
  r0 : W.cell? ⟨w.heap.size + 1 + 1, 0, none⟩ = some (.int .i64 0)
  r1 : W.cell? ⟨w.heap.size + 1 + 1, 1, none⟩ = some (.int .i64 0)
  f : ∀ o, W.frozen? ⟨w.heap.size + 1 + 1, o, none⟩ = false
theorem Gi.next {w : World} {h l i k : Nat} {W W' : World} (t : Gi w h l i k W) (hb : Below W.heap.size W W') : Gi w h l i k W' := by
  have s := t.size
  refine ⟨chain t.below hb, by have := hb.size; omega, ?_, ?_, ?_, ?_, ?_, ?_, fun o => ?_⟩
  · rw [hb.cell (p := ⟨w.heap.size, 0, none⟩) (by show w.heap.size < _; omega)]; exact t.a0
  · rw [hb.cell (p := ⟨w.heap.size, 1, none⟩) (by show w.heap.size < _; omega)]; exact t.a1
  · rw [hb.cell (p := ⟨w.heap.size + 1, 0, none⟩) (by show w.heap.size + 1 < _; omega)]; exact t.b0
  · rw [hb.cell (p := ⟨w.heap.size + 1, 1, none⟩) (by show w.heap.size + 1 < _; omega)]; exact t.b1
  · rw [hb.cell (p := ⟨w.heap.size + 1 + 1, 0, none⟩) s]; exact t.r0
  · rw [hb.cell (p := ⟨w.heap.size + 1 + 1, 1, none⟩) s]; exact t.r1
  · rw [hb.frozen (p := ⟨w.heap.size + 1 + 1, o, none⟩) s]; exact t.f o
theorem Gi.start (w : World) (h l i k : Nat) (T U : TypeId) : Gi w h l i k (((w.alloc (.cells #[.int .u64 (h : Int), .int .u64 (l : Int)] T)).alloc (.cells #[.int .u64 (i : Int), .int .u64 (k : Int)] T)).alloc (.cells #[.int .i64 0, .int .i64 0] U)) := by
  obtain ⟨_, p1, p2⟩ := ((AtU.new w h l T _ rfl).alloc (.cells #[.int .u64 (i : Int), .int .u64 (k : Int)] T)).alloc (.cells #[.int .i64 0, .int .i64 0] U)
  obtain ⟨_, q1, q2⟩ := (AtU.new (w.alloc (.cells #[.int .u64 (h : Int), .int .u64 (l : Int)] T)) i k T (w.heap.size + 1) (by simp)).alloc (.cells #[.int .i64 0, .int .i64 0] U)
  obtain ⟨_, r1, r2⟩ := At.new ((w.alloc (.cells #[.int .u64 (h : Int), .int .u64 (l : Int)] T)).alloc (.cells #[.int .u64 (i : Int), .int .u64 (k : Int)] T)) ⟨0, 0⟩ U (w.heap.size + 1 + 1) (by simp)
  exact ⟨(((Below.refl _ _).alloc (Nat.le_refl _) _).alloc (by simp) _).alloc (by simp; omega) _, by simp, p1, p2, q1, q2, r1, r2, fun o => World.frozen?_alloc_at _ _ _ _ (by simp)⟩

/-- a fraction in lowest terms, given -/
def gp (neg : Bool) (N D : Nat) : Rt.R × Int := if N ≤ 1152921504606846976 ∧ D ≤ 1152921504606846976 then (⟨if neg then -(N : Int) else (N : Int), (D : Int)⟩, 0) else (⟨0, 0⟩, 3)

set_option maxHeartbeats 3200000 in
set_option maxRecDepth 100000 in
theorem give_x (neg : Bool) (N D : Nat) (w : World) : Calls Try.prog 34 #[.bool neg, wv N, wv D] w fun e w' => e = .returned (rok (gp neg N D)) ∧ Below w.heap.size w w' := by
  have H1 : Hid (∀ w : World, Calls Try.prog 53 #[.agg #[.int .u64 ((N / 18446744073709551616 : Nat) : Int), .int .u64 ((N % 18446744073709551616 : Nat) : Int)]] w fun e w' => e = .returned (.bool (decide (N ≤ 1152921504606846976))) ∧ Below w.heap.size w w') := fun w => fits_x N w
  have H2 : Hid (∀ w : World, Calls Try.prog 53 #[.agg #[.int .u64 ((D / 18446744073709551616 : Nat) : Int), .int .u64 ((D % 18446744073709551616 : Nat) : Int)]] w fun e w' => e = .returned (.bool (decide (D ≤ 1152921504606846976))) ∧ Below w.heap.size w w') := fun w => fits_x D w
  show Calls Try.prog 34 #[.bool neg, .agg #[.int .u64 ((N / 18446744073709551616 : Nat) : Int), .int .u64 ((N % 18446744073709551616 : Nat) : Int)], .agg #[.int .u64 ((D / 18446744073709551616 : Nat) : Int), .int .u64 ((D % 18446744073709551616 : Nat) : Int)]] w fun e w' => e = .returned (rok (gp neg N D)) ∧ Below w.heap.size w w'
  by_cases cN : N ≤ 1152921504606846976
  · rw [decide_eq_true cN] at H1
    have n0 : N / 18446744073709551616 = 0 := by omega
    have n1 : N % 18446744073709551616 = N := by omega
    rw [n0, n1] at H1 ⊢
    by_cases cD : D ≤ 1152921504606846976
    · rw [decide_eq_true cD] at H2
      have d0 : D / 18446744073709551616 = 0 := by omega
      have d1 : D % 18446744073709551616 = D := by omega
      rw [d0, d1] at H2 ⊢
      have hv : Hid (gp neg N D = (⟨if neg then -(N : Int) else (N : Int), (D : Int)⟩, 0)) := by show _ = _; unfold gp; rw [if_pos ⟨cN, cD⟩]
      have T0 := Lib.hid (Gi.start w 0 N 0 D 44 23)
      clear n0 n1 d0 d1
      obtain ⟨g, hg⟩ : ∃ g, g = gp neg N D := ⟨_, rfl⟩
      rw [← hg] at hv ⊢
      clear hg
      go_enter Try.func34, Try.ntmps34
      go_wp2_with fail
      refine (H1.out _).mono ?_
      rintro e w1 ⟨rfl, b1⟩
      have T1 := Lib.hid (T0.out.next b1)
      clear b1 T0
      have y4 := T1.out.b0
      have y5 := T1.out.b1
      go_wp2_with fail
      refine (H2.out _).mono ?_
      rintro e w2 ⟨rfl, b2⟩
      have T2 := Lib.hid (T1.out.next b2)
      clear b2 T1 y4 y5
      have y1 := T2.out.size
      have y2 := T2.out.a0
      have y3 := T2.out.a1
      have y4 := T2.out.b0
      have y5 := T2.out.b1
      have y6 := T2.out.r0
      have y7 := T2.out.r1
      have y8 := T2.out.f 0
      have y9 := T2.out.f 1
      have y0 := T2.out.below
      have ys := y0.size
      cases neg with
      | false =>
        simp only [Bool.false_eq_true, if_false] at hv
        go_wp2_with fail
        exact bodyPost_ret (v := .tuple #[.agg #[.int .i64 (N : Int), .int .i64 (D : Int)], .int .i64 0]) (by simp [results, Try.results34, go_sem, World.cell?_alloc_past, y1, y6, y7]) rfl ⟨by rw [hv.out], (by repeat (first | exact Below.refl _ _ | assumption | refine below_drewN ?_ _ | refine Below.drew ?_ | refine Below.setCell ?_ (by simp; try omega) _ | refine Below.alloc ?_ (by simp; try omega) _))⟩
      | true =>
        simp only [if_true] at hv
        have hn : Hid (IntKind.i64.wrap (-(N : Int)) = -(N : Int)) := IntWalk.i64_in _ (by omega)
        have ho : Hid (∀ w : World, Calls Try.prog 50 #[.agg #[.int .i64 (N : Int), .int .i64 (D : Int)]] w fun e w' => e = .returned (.agg #[.int .i64 (-(N : Int)), .int .i64 (D : Int)]) ∧ Below w.heap.size w w') := fun w => by
          have := oppr_x ⟨N, D⟩ w
          unfold negR at this
          simp only at this
          rw [hn.out] at this
          exact this
        go_wp2_with fail
        refine (ho.out _).mono ?_
        rintro e w3 ⟨rfl, b3⟩
        have T3 := Lib.hid ((T2.out.next ((Below.refl _ w2).alloc (Nat.le_refl _) (.cells #[.int .i64 (N : Int), .int .i64 (D : Int)] 23))).next b3)
        clear b3 T2 y1 y2 y3 y4 y5 y6 y7 y8 y9 y0 ys
        have y1 := T3.out.size
        have y6 := T3.out.r0
        have y7 := T3.out.r1
        have y8 := T3.out.f 0
        have y9 := T3.out.f 1
        have y0 := T3.out.below
        go_wp2_with fail
        exact bodyPost_ret (v := .tuple #[.agg #[.int .i64 (-(N : Int)), .int .i64 (D : Int)], .int .i64 0]) (by simp [results, Try.results34, go_sem, y6, y7]) rfl ⟨by rw [hv.out], (by repeat (first | exact Below.refl _ _ | assumption | refine below_drewN ?_ _ | refine Below.drew ?_ | refine Below.setCell ?_ (by simp; try omega) _ | refine Below.alloc ?_ (by simp; try omega) _))⟩
    · rw [decide_eq_false cD] at H2
      have hv : Hid (gp neg N D = (⟨0, 0⟩, 3)) := by show _ = _; unfold gp; rw [if_neg (fun h => cD h.2)]
      clear n0 n1 cD
      generalize D / 18446744073709551616 = i at *
      generalize D % 18446744073709551616 = k at *
      have T0 := Lib.hid (Gi.start w 0 N i k 44 23)
      go_enter Try.func34, Try.ntmps34
      go_wp2_with fail
      refine (H1.out _).mono ?_
      rintro e w1 ⟨rfl, b1⟩
      have T1 := Lib.hid (T0.out.next b1)
      clear b1 T0
      have y4 := T1.out.b0
      have y5 := T1.out.b1
      go_wp2_with fail
      refine (H2.out _).mono ?_
      rintro e w2 ⟨rfl, b2⟩
      have T2 := Lib.hid (T1.out.next b2)
      clear b2 T1 y4 y5
      have y1 := T2.out.size
      have y6 := T2.out.r0
      have y7 := T2.out.r1
      have y8 := T2.out.f 0
      have y9 := T2.out.f 1
      have y0 := T2.out.below
      go_wp2_with fail
      exact bodyPost_ret (v := .tuple #[.agg #[.int .i64 0, .int .i64 0], .int .i64 3]) (by simp [results, Try.results34, go_sem, y6, y7]) rfl ⟨by rw [hv.out], (by repeat (first | exact Below.refl _ _ | assumption | refine below_drewN ?_ _ | refine Below.drew ?_ | refine Below.setCell ?_ (by simp; try omega) _ | refine Below.alloc ?_ (by simp; try omega) _))⟩
  · rw [decide_eq_false cN] at H1
    have hv : Hid (gp neg N D = (⟨0, 0⟩, 3)) := by show _ = _; unfold gp; rw [if_neg (fun h => cN h.1)]
    clear cN H2
    generalize N / 18446744073709551616 = h at *
    generalize N % 18446744073709551616 = l at *
    generalize D / 18446744073709551616 = i at *
    generalize D % 18446744073709551616 = k at *
    have T0 := Lib.hid (Gi.start w h l i k 44 23)
    go_enter Try.func34, Try.ntmps34
    go_wp2_with fail
    refine (H1.out _).mono ?_
    rintro e w1 ⟨rfl, b1⟩
    have T2 := Lib.hid (T0.out.next b1)
    clear b1 T0
    have y1 := T2.out.size
    have y6 := T2.out.r0
    have y7 := T2.out.r1
    have y8 := T2.out.f 0
    have y9 := T2.out.f 1
    have y0 := T2.out.below
    go_wp2_with fail
    exact bodyPost_ret (v := .tuple #[.agg #[.int .i64 0, .int .i64 0], .int .i64 3]) (by simp [results, Try.results34, go_sem, y6, y7]) rfl ⟨by rw [hv.out], (by repeat (first | exact Below.refl _ _ | assumption | refine below_drewN ?_ _ | refine Below.drew ?_ | refine Below.setCell ?_ (by simp; try omega) _ | refine Below.alloc ?_ (by simp; try omega) _))⟩

end Go.Proofs.Ytnddfngdlmdmhaa
