/-
  The program's Compare.
-/
import Derived.Test.YtnddfngdlmdmhaaProG
namespace Go.Proofs.Ytnddfngdlmdmhaa
open Go.RowKit

/-- the blocks of two operands -/
structure TwoP (w : World) (a b : Rt.R) (W : World) : Prop where
  below : Below w.heap.size w W
  size : w.heap.size + 1 < W.heap.size
  a0 : W.cell? ⟨w.heap.size, 0, none⟩ = some (.int .i64 a.n)
  a1 : W.cell? ⟨w.heap.size, 1, none⟩ = some (.int .i64 a.d)
  b0 : W.cell? ⟨w.heap.size + 1, 0, none⟩ = some (.int .i64 b.n)
  b1 : W.cell? ⟨w.heap.size + 1, 1, none⟩ = some (.int .i64 b.d)
theorem TwoP.next {w : World} {a b : Rt.R} {W W' : World} (h : TwoP w a b W) (hb : Below W.heap.size W W') : TwoP w a b W' := by
  have s := h.size
  refine ⟨chain h.below hb, by have := hb.size; omega, ?_, ?_, ?_, ?_⟩
  · rw [hb.cell (p := ⟨w.heap.size, 0, none⟩) (by show w.heap.size < _; omega)]; exact h.a0
  · rw [hb.cell (p := ⟨w.heap.size, 1, none⟩) (by show w.heap.size < _; omega)]; exact h.a1
  · rw [hb.cell (p := ⟨w.heap.size + 1, 0, none⟩) (by show w.heap.size + 1 < _; omega)]; exact h.b0
  · rw [hb.cell (p := ⟨w.heap.size + 1, 1, none⟩) (by show w.heap.size + 1 < _; omega)]; exact h.b1
theorem TwoP.drew {w : World} {a b : Rt.R} {W : World} (h : TwoP w a b W) : TwoP w a b W.drew := h.next (Below.drew (Below.refl _ _))
theorem TwoP.alloc {w : World} {a b : Rt.R} {W : World} (h : TwoP w a b W) (o : Obj) : TwoP w a b (W.alloc o) := h.next ((Below.refl _ _).alloc (Nat.le_refl _) _)
theorem TwoP.set {w : World} {a b : Rt.R} {W : World} (h : TwoP w a b W) (n o : Nat) (v : Value) (hn : w.heap.size + 1 < n) : TwoP w a b (W.setCell ⟨n, o, none⟩ v) := by
  have ne : ∀ m k : Nat, m ≤ w.heap.size + 1 → (⟨n, o, none⟩ : Addr) ≠ ⟨m, k, none⟩ := fun m k hm e => by injection e with e _ _; omega
  refine ⟨h.below.setCell (by show w.heap.size ≤ n; omega) _, by simp; exact h.size, ?_, ?_, ?_, ?_⟩
  · rw [World.cell?_setCell_other _ _ _ _ (ne _ _ (by omega))]; exact h.a0
  · rw [World.cell?_setCell_other _ _ _ _ (ne _ _ (by omega))]; exact h.a1
  · rw [World.cell?_setCell_other _ _ _ _ (ne _ _ (by omega))]; exact h.b0
  · rw [World.cell?_setCell_other _ _ _ _ (ne _ _ (by omega))]; exact h.b1
theorem TwoP.start (w : World) (a b : Rt.R) (T : TypeId) : TwoP w a b ((w.alloc (.cells #[.int .i64 a.n, .int .i64 a.d] T)).alloc (.cells #[.int .i64 b.n, .int .i64 b.d] T)) := by
  obtain ⟨_, p1, p2⟩ := (At.new w a T _ rfl).alloc (.cells #[.int .i64 b.n, .int .i64 b.d] T)
  obtain ⟨_, q1, q2⟩ := At.new (w.alloc (.cells #[.int .i64 a.n, .int .i64 a.d] T)) b T (w.heap.size + 1) (by simp)
  exact ⟨((Below.refl _ _).alloc (Nat.le_refl _) _).alloc (by simp) _, by simp, p1, p2, q1, q2⟩
theorem tw_all {w : World} {a b : Rt.R} {w' : World} (t : TwoP w a b w') : w.heap.size + 1 < w'.heap.size ∧ w'.cell? ⟨w.heap.size, 0, none⟩ = some (.int .i64 a.n) ∧ w'.cell? ⟨w.heap.size, 1, none⟩ = some (.int .i64 a.d) ∧ w'.cell? ⟨w.heap.size + 1, 0, none⟩ = some (.int .i64 b.n) ∧ w'.cell? ⟨w.heap.size + 1, 1, none⟩ = some (.int .i64 b.d) := ⟨t.size, t.a0, t.a1, t.b0, t.b1⟩

/-- the sign of a number -/
def sg3 (V : Int) : Int := if V < 0 then -1 else if V = 0 then 0 else 1
theorem prod_size {x y : Int} {X : Nat} (hx : x.natAbs ≤ 1152921504606846976) (hy : y.natAbs ≤ 1152921504606846976) (h : X = (x * y).natAbs) : X ≤ 1329227995784915872903807060280344576 := by
  have := Nat.mul_le_mul hx hy
  rw [Int.natAbs_mul] at h
  omega

/-- a fresh block of two words -/
structure Zb (n : Nat) (W : World) : Prop where
  size : n < W.heap.size
  c0 : W.cell? ⟨n, 0, none⟩ = some (.int .u64 0)
  c1 : W.cell? ⟨n, 1, none⟩ = some (.int .u64 0)
  f : ∀ o, W.frozen? ⟨n, o, none⟩ = false
theorem Zb.next {n : Nat} {W W' : World} (h : Zb n W) (hb : Below W.heap.size W W') : Zb n W' := by
  have s := h.size
  refine ⟨by have := hb.size; omega, ?_, ?_, fun o => ?_⟩
  · rw [hb.cell (p := ⟨n, 0, none⟩) s]; exact h.c0
  · rw [hb.cell (p := ⟨n, 1, none⟩) s]; exact h.c1
  · rw [hb.frozen (p := ⟨n, o, none⟩) s]; exact h.f o
theorem Zb.new (W : World) (T : TypeId) : Zb W.heap.size (W.alloc (.cells #[.int .u64 0, .int .u64 0] T)) := by
  refine ⟨by simp, ?_, ?_, fun o => World.frozen?_alloc_at _ _ _ _ rfl⟩ <;> rw [World.cell?_alloc_new] <;> rfl
theorem Zb.set {n : Nat} {W : World} (k : Zb n W) (h l : Nat) : AtU ((W.setCell ⟨n, 0, none⟩ (.int .u64 (h : Int))).setCell ⟨n, 1, none⟩ (.int .u64 (l : Int))) n h l := by
  refine ⟨by simp; exact k.size, ?_, ?_⟩
  · rw [World.cell?_setCell_other _ _ _ _ (by intro e; injection e with _ e _; cases e)]
    exact World.cell?_setCell_same _ _ _ k.c0
  · exact World.cell?_setCell_same _ _ _ (by rw [World.cell?_setCell_other _ _ _ _ (by intro e; injection e with _ e _; cases e)]; exact k.c1)

set_option maxHeartbeats 6400000 in
set_option maxRecDepth 100000 in
theorem Compare_x (a b : Rt.R) (w : World) (ha : In a) (hb : In b) : Calls Try.prog 21 #[rv a, rv b] w fun e w' => e = .returned (.int .i64 (Rt.cmp a b)) ∧ Below w.heap.size w w' := by
  have hA := Lib.hid ha
  have hB := Lib.hid hb
  cases ra : Rt.right a with
  | false =>
    have hv : Hid (Rt.cmp a b = 0) := by show _ = _; unfold Rt.cmp; rw [ra]; rfl
    have Ra := Lib.hid ra
    clear ra ha hb
    go_enter Try.func21, Try.ntmps21
    go_wp2_with fail
    refine (Right_x a _ hA.out).mono ?_
    rintro e w1 ⟨rfl, b1⟩
    have t1 := (TwoP.start w a b 23).next b1
    clear b1
    rw [Ra.out]
    have y1 := t1.size
    have y2 := t1.a0
    have y3 := t1.a1
    have y4 := t1.b0
    have y5 := t1.b1
    go_wp2_with fail
    go_ret
    exact ⟨by rw [hv.out]; rfl, t1.below⟩
  | true =>
    have Ra := Lib.hid ra
    cases rb : Rt.right b with
    | false =>
      have hv : Hid (Rt.cmp a b = 0) := by show _ = _; unfold Rt.cmp; rw [rb, Bool.and_false]; rfl
      have Rb := Lib.hid rb
      clear ra rb ha hb
      go_enter Try.func21, Try.ntmps21
      go_wp2_with fail
      refine (Right_x a _ hA.out).mono ?_
      rintro e w1 ⟨rfl, b1⟩
      have t1 := (TwoP.start w a b 23).next b1
      clear b1
      rw [Ra.out]
      have y1 := t1.size
      have y2 := t1.a0
      have y3 := t1.a1
      have y4 := t1.b0
      have y5 := t1.b1
      go_wp2_with fail
      refine (Right_x b _ hB.out).mono ?_
      rintro e w2 ⟨rfl, b2⟩
      have t2 := t1.next b2
      clear b2 t1
      clear y1 y2 y3 y4 y5
      rw [Rb.out]
      have y1 := t2.size
      have y2 := t2.a0
      have y3 := t2.a1
      have y4 := t2.b0
      have y5 := t2.b1
      go_wp2_with fail
      go_ret
      exact ⟨by rw [hv.out]; rfl, t2.below⟩
    | true =>
      have Rb := Lib.hid rb
      obtain ⟨a1, a2, a3⟩ := right_small ra
      obtain ⟨b1, b2, b3⟩ := right_small rb
      have da : (a.d.natAbs : Int) = a.d := by omega
      have db : (b.d.natAbs : Int) = b.d := by omega
      have nb : IntKind.i64.wrap (-b.n) = -b.n := IntWalk.i64_in _ (by omega)
      have w1' : IntKind.u64.wrap a.d = a.d := by rw [← da]; exact wrapU _ (by omega)
      have w2' : IntKind.u64.wrap b.d = b.d := by rw [← db]; exact wrapU _ (by omega)
      have P1 : Hid (∀ w : World, Calls Try.prog 40 #[.int .i64 a.n, .int .u64 b.d] w fun e w' => e = .returned (wv (ws (a.n * b.d))) ∧ Below w.heap.size w w') := fun w => by
        have h := product_x a.n b.d.natAbs w ha.1 (by omega)
        rw [db] at h
        exact h
      have P2 : Hid (∀ w : World, Calls Try.prog 40 #[.int .i64 (-b.n), .int .u64 a.d] w fun e w' => e = .returned (wv (ws (-b.n * a.d))) ∧ Below w.heap.size w w') := fun w => by
        have h := product_x (-b.n) a.d.natAbs w (by unfold I64; omega) (by omega)
        rw [da] at h
        exact h
      obtain ⟨V, hV⟩ : ∃ V : Int, V = a.n * b.d + -b.n * a.d := ⟨_, rfl⟩
      have P3 : Hid (∀ w : World, Calls Try.prog 41 #[wv (ws (a.n * b.d)), wv (ws (-b.n * a.d))] w fun e w' => e = .returned (wv (ws V)) ∧ Below w.heap.size w w') := fun w => by
        have h := wplus_x (ws (a.n * b.d)) (ws (-b.n * a.d)) w
        rw [ws_plus, ← hV] at h
        exact h
      have hs1 := prod_size (X := (a.n * b.d).natAbs) a1 b2 rfl
      have hs2 := prod_size (x := -b.n) (y := a.d) (X := (-b.n * a.d).natAbs) (by omega) a2 rfl
      have v1 : -170141183460469231731687303715884105728 < V := by omega
      have v2 : V < 170141183460469231731687303715884105728 := by omega
      have hcmp : Rt.cmp a b = sg3 V := by
        unfold sg3
        rw [Rt.cmp_right ra rb]
        have e : -b.n * a.d = -(b.n * a.d) := Int.neg_mul _ _
        rw [e] at hV
        generalize a.n * b.d = x at hV ⊢
        generalize b.n * a.d = y at hV ⊢
        have hVV : V = x + -y := hV
        clear hV v1 v2 hs1 hs2 P3
        by_cases c1 : x < y
        · rw [if_pos c1, if_pos (by omega)]
        · rw [if_neg c1, if_neg (show ¬ V < 0 by omega)]
          by_cases c2 : y < x
          · rw [if_pos c2, if_neg (by omega)]
          · rw [if_neg c2, if_pos (by omega)]
      have NG : Hid (∀ w : World, Calls Try.prog 44 #[wv (ws V)] w fun e w' => e = .returned (.bool (decide (V < 0))) ∧ Below w.heap.size w w') := fun w => by
        have h := negative_x (ws V) w (ws_lt V)
        rw [ws_sign v1 v2] at h
        exact h
      have hz : (ws V / 18446744073709551616 = 0 ∧ ws V % 18446744073709551616 = 0) ↔ V = 0 := by
        have := ws_zero v1 v2
        omega
      unfold wv at P1 P2 P3 NG
      generalize ws (a.n * b.d) / 18446744073709551616 = h1 at *
      generalize ws (a.n * b.d) % 18446744073709551616 = l1 at *
      generalize ws (-b.n * a.d) / 18446744073709551616 = h2 at *
      generalize ws (-b.n * a.d) % 18446744073709551616 = l2 at *
      generalize ws V / 18446744073709551616 = h3 at *
      generalize ws V % 18446744073709551616 = l3 at *
      rw [hcmp]
      obtain ⟨g, hg⟩ : ∃ g, decide (V < 0) = g := ⟨_, rfl⟩
      rw [hg] at NG
      have hz0 : V = 0 → (((h3 : Int) == 0) = true ∧ ((l3 : Int) == 0) = true) := fun h => by
        obtain ⟨p, q⟩ := hz.2 h
        subst p; subst q; exact ⟨rfl, rfl⟩
      have hz1 : ¬ V = 0 → ((h3 : Int) == 0) = true → ((l3 : Int) == 0) = false := fun h p => by
        rw [beq_iff_eq] at p
        rw [beq_eq_false_iff_ne]
        intro q
        exact h (hz.1 ⟨by omega, by omega⟩)
      clear hcmp hV ra rb ha hb a1 a2 a3 b1 b2 b3 da db hs1 hs2 v1 v2 hz
      go_enter Try.func21, Try.ntmps21
      go_wp2_with fail
      refine (Right_x a _ hA.out).mono ?_
      rintro e w1 ⟨rfl, b1⟩
      have t1 := (TwoP.start w a b 23).next b1
      clear b1
      rw [Ra.out]
      have y1 := t1.size
      have y2 := t1.a0
      have y3 := t1.a1
      have y4 := t1.b0
      have y5 := t1.b1
      go_wp2_with fail
      refine (Right_x b _ hB.out).mono ?_
      rintro e w2 ⟨rfl, b2⟩
      have t2 := t1.next b2
      clear b2 t1
      clear y1 y2 y3 y4 y5
      rw [Rb.out]
      have y1 := t2.size
      have y2 := t2.a0
      have y3 := t2.a1
      have y4 := t2.b0
      have y5 := t2.b1
      go_upto_region 3 with fail
      go_cut [5] (fun p wx => ∃ n, p = .pointer (some ⟨n, 0, none⟩) ∧ w.heap.size + 1 < n ∧ TwoP w a b wx ∧ AtU wx n h3 l3)
      case first =>
        have hT : TwoP w a b _ := t2
        have hT' : TwoP w a b _ := t2.drew
        go_region_held3 (fun w' => w.heap.size + 1 < w'.heap.size ∧ w'.cell? ⟨w.heap.size, 0, none⟩ = some (.int .i64 a.n) ∧ w'.cell? ⟨w.heap.size, 1, none⟩ = some (.int .i64 a.d) ∧ w'.cell? ⟨w.heap.size + 1, 0, none⟩ = some (.int .i64 b.n) ∧ w'.cell? ⟨w.heap.size + 1, 1, none⟩ = some (.int .i64 b.d))
          (first
          | exact tw_all hT
          | exact tw_all hT'
          | exact tw_all (by assumption)
          | exact tw_all (TwoP.alloc (by assumption) _)
          | exact tw_all (TwoP.set (TwoP.set (by assumption) _ _ _ (by omega)) _ _ _ (by omega))
          | exact tw_all (TwoP.set (TwoP.set (TwoP.alloc (by assumption) _) _ _ _ (by omega)) _ _ _ (by omega)))
          (first
          | (go_at_call 40; with_reducible refine (P1.out _).mono ?_; rintro e w' ⟨rfl, hb⟩; have hk : TwoP w a b w' := (by first | exact TwoP.next (by assumption) hb | exact TwoP.next (TwoP.alloc (by assumption) _) hb | exact TwoP.next (TwoP.drew (TwoP.alloc (by assumption) _)) hb); have hks := hk.size; first | (have hz := Zb.next (by assumption) hb; have q0 := hz.c0; have q1 := hz.c1; have q2 := hz.f 0; have q3 := hz.f 1; have q4 := hz.size) | (have hz := Zb.next (Zb.new _ _) hb; have q0 := hz.c0; have q1 := hz.c1; have q2 := hz.f 0; have q3 := hz.f 1; have q4 := hz.size) | (have hz := Zb.next (Zb.next (Zb.new _ _) (Below.drew (Below.refl _ _))) hb; have q0 := hz.c0; have q1 := hz.c1; have q2 := hz.f 0; have q3 := hz.f 1; have q4 := hz.size) | skip)
          | (go_at_call 40; with_reducible refine (P2.out _).mono ?_; rintro e w' ⟨rfl, hb⟩; have hk : TwoP w a b w' := (by first | exact TwoP.next (by assumption) hb | exact TwoP.next (TwoP.alloc (by assumption) _) hb | exact TwoP.next (TwoP.drew (TwoP.alloc (by assumption) _)) hb); have hks := hk.size; first | (have hz := Zb.next (by assumption) hb; have q0 := hz.c0; have q1 := hz.c1; have q2 := hz.f 0; have q3 := hz.f 1; have q4 := hz.size) | (have hz := Zb.next (Zb.new _ _) hb; have q0 := hz.c0; have q1 := hz.c1; have q2 := hz.f 0; have q3 := hz.f 1; have q4 := hz.size) | (have hz := Zb.next (Zb.next (Zb.new _ _) (Below.drew (Below.refl _ _))) hb; have q0 := hz.c0; have q1 := hz.c1; have q2 := hz.f 0; have q3 := hz.f 1; have q4 := hz.size) | skip)
          | (go_at_call 41; with_reducible refine (P3.out _).mono ?_; rintro e w' ⟨rfl, hb⟩; have hk : TwoP w a b w' := (by first | exact TwoP.next (by assumption) hb | exact TwoP.next (TwoP.alloc (by assumption) _) hb | exact TwoP.next (TwoP.drew (TwoP.alloc (by assumption) _)) hb); have hks := hk.size; first | (have hz := Zb.next (by assumption) hb; have q0 := hz.c0; have q1 := hz.c1; have q2 := hz.f 0; have q3 := hz.f 1; have q4 := hz.size) | (have hz := Zb.next (Zb.new _ _) hb; have q0 := hz.c0; have q1 := hz.c1; have q2 := hz.f 0; have q3 := hz.f 1; have q4 := hz.size) | (have hz := Zb.next (Zb.next (Zb.new _ _) (Below.drew (Below.refl _ _))) hb; have q0 := hz.c0; have q1 := hz.c1; have q2 := hz.f 0; have q3 := hz.f 1; have q4 := hz.size) | skip))
        all_goals
          go_wp2_with fail
          go_meet
          first
            | exact ⟨_, rfl, by omega, TwoP.alloc (by assumption) _, AtU.new _ _ _ _ _ rfl⟩
            | exact ⟨_, rfl, by omega, TwoP.set (TwoP.set (by assumption) _ _ _ (by omega)) _ _ _ (by omega), Zb.set (by assumption) _ _⟩
      case rest =>
        obtain ⟨n, rfl, hn, t3, u3⟩ := hcut
        clear t2
        clear y1 y2 y3 y4 y5
        obtain ⟨z0, z1, z2⟩ := id u3
        go_wp2_with fail
        refine (NG.out _).mono ?_
        rintro e w4 ⟨rfl, b4⟩
        have t4 := t3.next b4
        have u4 := u3.below b4
        clear b4 t3 u3 z0 z1 z2
        obtain ⟨z0, z1, z2⟩ := id u4
        have hbl := t4.below
        cases g with
        | true =>
          have hv : Hid (sg3 V = -1) := by show _ = _; unfold sg3; rw [if_pos (of_decide_eq_true hg)]
          clear hz0 hz1 hg
          go_wp2_with fail
          go_ret
          exact ⟨by rw [hv.out]; rfl, hbl⟩
        | false =>
          have hV0 := of_decide_eq_false hg
          by_cases hV : V = 0
          · have hv : Hid (sg3 V = 0) := by show _ = _; unfold sg3; rw [if_neg hV0, if_pos hV]
            obtain ⟨k1, k2⟩ := hz0 hV
            clear hz0 hz1 hg hV hV0
            go_wp2_with fail
            go_ret
            exact ⟨by rw [hv.out]; rfl, hbl⟩
          · have hv : Hid (sg3 V = 1) := by show _ = _; unfold sg3; rw [if_neg hV0, if_neg hV]
            have hz2 := hz1 hV
            cases k1 : ((h3 : Int) == 0) with
            | true =>
              have k2 := hz2 k1
              clear hz0 hz1 hz2 hg hV hV0
              go_wp2_with fail
              go_ret
              exact ⟨by rw [hv.out]; rfl, hbl⟩
            | false =>
              clear hz0 hz1 hz2 hg hV hV0
              go_wp2_with fail
              go_ret
              exact ⟨by rw [hv.out]; rfl, hbl⟩

end Go.Proofs.Ytnddfngdlmdmhaa
