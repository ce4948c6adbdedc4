/-
  The program's Count.
-/
import Derived.Test.YtmlelmknbddkjaaDoorProM
namespace Go.Proofs.YtmlelmknbddkjaaDoor
open Go.RowKit Go.Shelf

attribute [local go_sem] Oper.semAt_some

theorem wpListIn_store_rowL {F : Fence} {n : Nat} {P : Program} {ops : Array Oper} {rest : List Oper} {o : Oper} {a : Act} {w : World} {Q : Exit → Act → World → Prop} (hgd : o.guard = none) (ty : TypeId) (x y : Operand) (ho : o.op = .store ty x y)
    (g : Nat) (cells : Array Value) (hx : a.eval x = .pointer (some ⟨g, 0, none⟩)) (hy : a.eval y = .agg cells)
    (t : TypeId) (old : Array Value) (hg : w.heap[g]? = some (.cells old t (0, 0))) (hi : (P.info? ty).map (·.size) = some cells.size)
    (hold : old.size = cells.size) (h1 : cells.all (·.oneCell') = true)
    (h : wpListIn F n P ops Q rest (a.put o.dst undef) (w.setRow g cells)) : wpListIn F n P ops Q (o :: rest) a w := by
  refine wpListIn_plain hgd fun K hK => ?_
  unfold Oper.wpIn
  refine ⟨?_, ?_⟩
  · simp [Oper.about, ho]
  · rw [Oper.semAt_plain F _ _ (by rw [ho]; intro c hc'; cases hc')]
    simp only [execOp, ho, hx, hy, Instr.storeAt, Instr.sureAddr, Sem.run_bind, Sem.run_pure, Result.andThen_ok, run_storeVar_row w g t ty old cells hg hi hold h1]
    exact hK _ _ h

theorem opens_len (C : Lists) : ∀ (k : Nat) (t : Int), (opens C k t).length = cntN C k t
  | 0, _ => rfl
  | k + 1, t => by
    unfold opens cntN
    split
    · rw [List.length_cons, opens_len C k (t + 1)]; omega
    · rw [opens_len C k (t + 1)]; omega
theorem cntN_le (C : Lists) : ∀ (k : Nat) (t : Int), cntN C k t ≤ k
  | 0, _ => Nat.le_refl 0
  | k + 1, t => by
    have := cntN_le C k (t + 1)
    unfold cntN
    split <;> omega

/-- nothing below m has turned but block x -/
structure But (x m : Nat) (A B : World) : Prop where
  os : B.os = A.os
  tape : B.tape = A.tape
  output : B.output = A.output
  size : A.heap.size ≤ B.heap.size
  block : ∀ k, k < m → k ≠ x → B.heap[k]? = A.heap[k]?
theorem But.of {x m : Nat} {A B : World} (h : Below m A B) : But x m A B := ⟨h.os, h.tape, h.output, h.size, fun k hk _ => h.block k hk⟩
theorem But.below {x m : Nat} {A B : World} (h : But x m A B) (n : Nat) (h1 : n ≤ x) (h2 : n ≤ m) : Below n A B := ⟨h.os, h.tape, h.output, h.size, fun k hk => h.block k (by omega) (by omega)⟩
theorem But.trans {x m : Nat} {A B C : World} (h : But x m A B) (k : But x m B C) : But x m A C :=
  ⟨k.os.trans h.os, k.tape.trans h.tape, k.output.trans h.output, Nat.le_trans h.size k.size, fun i hi hx => (k.block i hi hx).trans (h.block i hi hx)⟩
theorem But.cell {x m : Nat} {A B : World} (h : But x m A B) (k : Nat) (hk : k < m) (hx : k ≠ x) {v : Value} (hc : A.cell? ⟨k, 0, none⟩ = some v) : B.cell? ⟨k, 0, none⟩ = some v := by
  rw [World.cell?_of_block (a := ⟨k, 0, none⟩) (h.block k hk hx)]
  exact hc
theorem But.set {x m : Nat} (W : World) (v : Value) : But x m W (W.setCell ⟨x, 0, none⟩ v) :=
  ⟨rfl, rfl, rfl, by simp, fun k _ hx => heap_setCell_other W ⟨x, 0, none⟩ k v hx⟩

set_option maxRecDepth 100000 in
set_option maxHeartbeats 3200000 in
theorem CountP_x (nm : ByteArray) (o c : Int) (v3 v4 v5 : Value) (C : Lists) (a b : Int) (w : World) (h : CityAt w v3 v4 v5 C) (hbf : Bf w) :
    Calls Tryd.prog 26 #[cityV nm o c v3 v4 v5, .int .i64 a, .int .i64 b] w fun e w' => e = .returned (pv (countV C a b)) ∧ Below w.heap.size w w' := by
  have hro : Fence.wide.round = none := rfl
  have B0 : Below w.heap.size w (w.alloc (.cells #[.string nm, .int .i64 o, .int .i64 c, v3, v4, v5] 24)) := (Below.refl _ _).alloc (Nat.le_refl _) _
  cases V : valid a with
  | false =>
    have V' := Lib.hid V
    have hv : Hid (countV C a b = (0, 3)) := by show _ = _; unfold countV; rw [if_neg (by rw [V]; simp)]
    have HB0 := Lib.hid B0
    clear V hbf h B0
    refine (callsIn_wide (n := 3)).1 ?_
    refine callsIn_of_wp_marks Tryd.func26 rfl trivial ?_ hro
    simp only [Tryd.ntmps26, List.size_toArray, List.length_cons, List.length_nil, Nat.reduceAdd, Nat.reduceSub, Array.replicate_succ, Array.replicate_zero, List.push_toArray, List.append_toArray, List.nil_append, List.cons_append]
    gi_wp2
    refine ⟨trivial, (callsIn_wide.2 (isDay_x a _)).mono ?_⟩
    rintro e w1 ⟨rfl, rfl⟩
    rw [V'.out]
    gi_wp2
    refine ⟨trivial, ?_⟩
    gi_wp2
    refine ⟨.tuple #[.int .i64 0, .int .i64 3], ?_, ?_⟩
    · simp [results, Tryd.f26, go_sem]
    · exact ⟨by rw [hv.out], HB0.out⟩
  | true =>
    cases V2 : valid b with
    | false =>
      have V' := Lib.hid V
      have V2' := Lib.hid V2
      have hv : Hid (countV C a b = (0, 3)) := by show _ = _; unfold countV; rw [if_neg (by rw [V2]; simp)]
      have HB0 := Lib.hid B0
      clear V V2 hbf h B0
      refine (callsIn_wide (n := 3)).1 ?_
      refine callsIn_of_wp_marks Tryd.func26 rfl trivial ?_ hro
      simp only [Tryd.ntmps26, List.size_toArray, List.length_cons, List.length_nil, Nat.reduceAdd, Nat.reduceSub, Array.replicate_succ, Array.replicate_zero, List.push_toArray, List.append_toArray, List.nil_append, List.cons_append]
      gi_wp2
      refine ⟨trivial, (callsIn_wide.2 (isDay_x a _)).mono ?_⟩
      rintro e w1 ⟨rfl, rfl⟩
      rw [V'.out]
      gi_wp2
      refine ⟨trivial, (callsIn_wide.2 (isDay_x b _)).mono ?_⟩
      rintro e w1 ⟨rfl, rfl⟩
      rw [V2'.out]
      gi_wp2
      refine ⟨.tuple #[.int .i64 0, .int .i64 3], ?_, ?_⟩
      · simp [results, Tryd.f26, go_sem]
      · exact ⟨by rw [hv.out], HB0.out⟩
    | true =>
      have hva := valid_iff.1 V
      have hvb := valid_iff.1 V2
      have V' := Lib.hid V
      have V2' := Lib.hid V2
      have hv : Hid (countV C a b = (((cntN C (b + 1 - a).toNat a : Nat) : Int), 0)) := by show _ = _; unfold countV; rw [if_pos ⟨V, V2⟩]
      obtain ⟨hz, hi⟩ := zero_of_info infoO
      obtain ⟨Z, hZ⟩ : ∃ Z, offC (fun _ => false) (.slice none 0 0) = Z := ⟨_, rfl⟩
      rw [hZ] at hz
      have HZ := Lib.hid hZ
      have HC : Hid (CityAt (w.alloc (.cells #[.string nm, .int .i64 o, .int .i64 c, v3, v4, v5] 24)) v3 v4 v5 C) := h.below B0
      have HF := Lib.hid hbf
      have HB0 := Lib.hid B0
      clear V V2 hbf h hi hZ B0
      refine (callsIn_wide (n := 3)).1 ?_
      refine callsIn_of_wp_marks Tryd.func26 rfl trivial ?_ hro
      simp only [Tryd.ntmps26, List.size_toArray, List.length_cons, List.length_nil, Nat.reduceAdd, Nat.reduceSub, Array.replicate_succ, Array.replicate_zero, List.push_toArray, List.append_toArray, List.nil_append, List.cons_append]
      gi_wp2
      refine ⟨trivial, (callsIn_wide.2 (isDay_x a _)).mono ?_⟩
      rintro e w1 ⟨rfl, rfl⟩
      rw [V'.out]
      gi_wp2
      refine ⟨trivial, (callsIn_wide.2 (isDay_x b _)).mono ?_⟩
      rintro e w1 ⟨rfl, rfl⟩
      rw [V2'.out]
      gi_wp2
      refine ⟨trivial, (callsIn_wide.2 (offices_y nm o c v3 v4 v5 C _ HC.out Z HZ.out)).mono ?_⟩
      rintro e w2 ⟨Y, rfl, b2, i2, zy, y1, hg, hst, hof⟩
      have Hi := Lib.hid i2
      have Hzy := Lib.hid zy
      have Hy1 := Lib.hid y1
      have Hg := Lib.hid hg
      have Hof := Lib.hid hof
      have HB2 : Hid (Below w.heap.size w (w2.alloc (.cells Y 53))) := chain (chain HB0.out b2) ((Below.refl _ _).alloc (Nat.le_refl _) _)
      have Hst := Lib.hid hst
      clear i2 zy y1 hg hof b2 hst
      gi_wp2_with (refine wpListIn_store_rowL rfl 53 (.tmp 8) (.tmp 19) rfl w2.heap.size Y rfl rfl 53 Z Hg.out Hi.out Hzy.out Hy1.out ?_)
      rw [Hst.out]
      obtain ⟨w4, hw4⟩ : ∃ w4, w2.alloc (.cells Y 53) = w4 := ⟨_, rfl⟩
      have s4 : w4.heap.size = w2.heap.size + 1 := by rw [← hw4]; simp
      obtain ⟨ob, hob⟩ : ∃ ob, w2.heap.size = ob := ⟨_, rfl⟩
      rw [hw4] at Hof HB2 ⊢
      rw [hob] at Hof s4 ⊢
      have HF4 : Hid (Bf w4) := bf_of HF.out HB2.out
      clear Hst Hg hw4 hob Hi Hzy Hy1
      obtain ⟨wa, hwa⟩ : ∃ wa, w4.alloc (.cells #[.int .i64 0] 3) = wa := ⟨_, rfl⟩
      rw [hwa]
      have sa : wa.heap.size = ob + 1 + 1 := by rw [← hwa]; simp [s4]
      have Ba : Below w4.heap.size w4 wa := by rw [← hwa]; exact (Below.refl _ _).alloc (Nat.le_refl _) _
      have q0 := cell_newL w4 (.int .i64 0) 3
      rw [hwa, s4] at q0
      refine ⟨trivial, (callsIn_wide.2 (daysP_x _ _ _ _)).mono ?_⟩
      rintro e w1 ⟨rfl, hw1⟩
      have B1 : Below wa.heap.size wa w1 := by rw [hw1]; exact (((Below.refl _ _).alloc (Nat.le_refl _) _).alloc (by simp) _).alloc (by simp; omega) _
      have s1 : w1.heap.size = ob + 1 + 1 + 1 + 1 + 1 := by rw [hw1]; simp [sa]
      have x3 : w1.cell? ⟨ob + 1 + 1, 0, none⟩ = some (.pointer (some ⟨ob, 0, none⟩)) := by rw [← sa, hw1]; exact cell_allocL _ (cell_allocL _ (cell_newL wa _ _).1)
      have x1 : w1.cell? ⟨ob + 1 + 1 + 1, 0, none⟩ = some (.int .i64 a) := by
        rw [← sa, hw1]
        have := (cell_newL (wa.alloc (.cells #[.pointer (some ⟨ob, 0, none⟩)] 62)) (.int .i64 a) 3).1
        rw [World.size_alloc] at this
        exact cell_allocL _ this
      have x2 : w1.cell? ⟨ob + 1 + 1 + 1 + 1, 0, none⟩ = some (.int .i64 b) := by
        rw [← sa, hw1]
        have := (cell_newL ((wa.alloc (.cells #[.pointer (some ⟨ob, 0, none⟩)] 62)).alloc (.cells #[.int .i64 a] 3)) (.int .i64 b) 3).1
        rw [World.size_alloc, World.size_alloc] at this
        exact this
      have y0 : w1.cell? ⟨ob + 1, 0, none⟩ = some (.int .i64 0) ∧ w1.frozen? ⟨ob + 1, 0, none⟩ = false := by
        constructor
        · rw [B1.cell (p := ⟨ob + 1, 0, none⟩) (by show ob + 1 < _; omega)]; exact q0.1
        · rw [World.frozen?_of_block (B1.block (ob + 1) (by omega))]; exact q0.2
      have B41 : Below w4.heap.size w4 w1 := chain Ba B1
      have HS : Hid (SeqStopsK Fence.wide 2 Tryd.prog 46 #[.pointer (some ⟨ob + 1 + 1 + 1, 0, none⟩), .pointer (some ⟨ob + 1 + 1 + 1 + 1, 0, none⟩), .pointer (some ⟨ob + 1 + 1, 0, none⟩)] (fun x : Int => #[Value.int .i64 x]) (But (ob + 1) w1.heap.size)
        (fun ys => ys = opens C (b + 1 - a).toNat a) (fun pre => pre <+: opens C (b + 1 - a).toNat a) (opens C (b + 1 - a).toNat a).length w1) :=
        days_stops 2 (by omega) ob _ _ _ C a b hva.1 hva.2 hvb.2 w1 (But (ob + 1) w1.heap.size) (fun h k => h.trans k) (fun A q => But.of (below_drewN (Below.refl _ _) q)) (fun _ h => But.of h)
          (fun W hW => by
            have b4 : Below w4.heap.size w4 W := B41.trans (hW.below w4.heap.size (by omega) (by omega))
            exact ⟨Hof.out.next b4, bf_of HF4.out b4, hW.cell _ (by omega) (by omega) x1, hW.cell _ (by omega) (by omega) x2, hW.cell _ (by omega) (by omega) x3⟩)
      have HB1 : Hid (Below w.heap.size w w1) := chain HB2.out B41
      have hsz := HB2.out.size
      have hcnt := cntN_le C (b + 1 - a).toNat a
      rw [← opens_len] at hcnt hv
      have Hcnt : Hid ((opens C (b + 1 - a).toNat a).length ≤ 100001) := show _ ≤ _ by omega
      clear hw1 hwa Ba q0 B1 x1 x2 x3 B41 hcnt
      rw [sa]
      gi_wp2
      refine wpIn_rangeFunc_ownF hro (by decide) (gf := 46) (lb := #[.pointer (some ⟨ob + 1 + 1 + 1, 0, none⟩), .pointer (some ⟨ob + 1 + 1 + 1 + 1, 0, none⟩), .pointer (some ⟨ob + 1 + 1, 0, none⟩)]) rfl trivial
        (enters_of Tryd.func46 (by kernel_rfl) rfl) HS.out (fun h k => h.trans k) (fun W l o o' h1 h2 h3 h4 => But.of (belowK_b (Nat.le_refl _) W l o o' h1 h2 h3 h4)) (Below.refl _ _) (fun _ => rfl)
        (fun pre W => (W.cell? ⟨ob + 1, 0, none⟩ = some (.int .i64 (pre.length : Nat)) ∧ W.frozen? ⟨ob + 1, 0, none⟩ = false) ∧ Below w.heap.size w W)
        (fun _ _ _ => False)
        (OwnFrom.and (Own.from (fun s A B row hs hg hr => ⟨cell_kept hs.1 hg hr, (frozen_kept hs.1 hg hr).trans hs.2⟩) _) (ownFrom_below (Nat.le_refl _) (by omega)))
        (fun _ _ _ _ _ hs _ _ => hs)
        ⟨y0, HB1.out⟩
        (fun x => { tmps := #[cityV nm o c v3 v4 v5, .int .i64 a, .int .i64 b, .pointer (some ⟨w.heap.size, 0, none⟩), undef, undef, .int .i64 0, .int .i64 0, .pointer (some ⟨ob, 0, none⟩), .pointer (some ⟨ob + 1, 0, none⟩), .int .i64 a, .bool true, .bool false, .bool false, .int .i64 b, .bool true, .bool false, .bool false,
          .agg #[.string nm, .int .i64 o, .int .i64 c, v3, v4, v5], .agg Y, .int .i64 a, .int .i64 b, .func (.func 46) #[] #[.pointer (some ⟨ob + 1 + 1 + 1, 0, none⟩), .pointer (some ⟨ob + 1 + 1 + 1 + 1, 0, none⟩), .pointer (some ⟨ob + 1 + 1, 0, none⟩)], .int .i64 x, undef, undef, undef], defers := [] }) ?assign ?body ?done ?stop
      case assign =>
        intro l x W K hK
        gi_wp2
        simpa using hK
      case body =>
        clear y0
        rintro l pre x W ⟨⟨y0, z0⟩, hB⟩ hlen
        have p0 : (0 : Int) ≤ (pre.length : Int) := by omega
        have p1 : (pre.length : Int) ≤ 100001 := by have := Hcnt.out; omega
        gi_wp2
        exact ⟨KeepsOthers.setCell _ _ _, But.set _ _, ⟨by rw [World.cell?_setCell_same' _ _ _ (by rw [y0]; rfl)]; simp, by rw [World.frozen?_setCell]; exact z0⟩, hB.setCell (p := ⟨ob + 1, 0, none⟩) (by show w.heap.size ≤ ob + 1; omega) _⟩
      case done =>
        clear y0
        rintro D ys W hD rfl ⟨⟨y0, z0⟩, hB⟩ hK
        gi_wp2
        refine ⟨by simp, .inl ⟨_, _, rfl, run_takeDeferred hK, ?_⟩⟩
        refine ⟨.tuple #[.int .i64 ((opens C (b + 1 - a).toNat a).length : Nat), .int .i64 0], ?_, ?_, ?_⟩
        · simp [results, Tryd.f26, go_sem]
        · rw [hv.out]
        · exact hB.trans (belowK_b (w := w) (Nat.le_refl _) W D _ _ (by omega) hK rfl rfl)
      case stop =>
        rintro D c pre W _ _ h _
        exact h.elim

end Go.Proofs.YtmlelmknbddkjaaDoor
