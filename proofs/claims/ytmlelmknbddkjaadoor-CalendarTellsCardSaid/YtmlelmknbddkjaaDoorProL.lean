/-
  The program's next: the first open day within reach.
-/
import Derived.Test.YtmlelmknbddkjaaDoorProK
namespace Go.Proofs.YtmlelmknbddkjaaDoor
open Go.RowKit Go.Shelf

attribute [local go_sem] Oper.semAt_some

theorem seek_cut {C : Lists} {t : Int} {k : Nat} (hk : (k : Int) = min (t + 400) 100000 + 1 - t) : seek C 401 t = seek C k t := by
  cases h1 : seek C 401 t with
  | none =>
    cases h2 : seek C k t with
    | none => rfl
    | some u =>
      obtain ⟨a1, a2, a3, a4⟩ := seek_some h2
      have := seek_none h1 u a1 (by omega)
      rw [this] at a3
      cases a3
  | some u =>
    obtain ⟨a1, a2, a3, a4⟩ := seek_some h1
    have hv := isOpen_valid a3
    cases h2 : seek C k t with
    | none =>
      have := seek_none h2 u a1 (by omega)
      rw [this] at a3
      cases a3
    | some u' =>
      obtain ⟨b1, b2, b3, b4⟩ := seek_some h2
      rcases Int.lt_trichotomy u u' with c | c | c
      · rw [b4 u a1 c] at a3; cases a3
      · rw [c]
      · rw [a4 u' b1 c] at b3; cases b3
theorem opens_seek (C : Lists) : ∀ (k : Nat) (t : Int), (opens C k t).head? = seek C k t
  | 0, _ => rfl
  | k + 1, t => by
    unfold opens seek
    split
    · rfl
    · exact opens_seek C k (t + 1)
/-- the first one that comes of the days is the next open day -/
theorem next_of {C : Lists} {t u : Int} {pre : List Int} (h0 : 0 ≤ t) (h1 : t ≤ 100000) (h : pre ++ [u] <+: opens C (min (t + 400) 100000 + 1 - t).toNat t) (hp : pre = []) : nextV C t = (u, 0) := by
  subst hp
  obtain ⟨s, hs⟩ := h
  have e := opens_seek C (min (t + 400) 100000 + 1 - t).toNat t
  rw [← hs] at e
  unfold nextV
  rw [valid_yes h0 h1, seek_cut (k := (min (t + 400) 100000 + 1 - t).toNat) (by omega), ← e]
  rfl
theorem next_end {C : Lists} {t : Int} (h0 : 0 ≤ t) (h1 : t ≤ 100000) (h : opens C (min (t + 400) 100000 + 1 - t).toNat t = []) : nextV C t = (0, 3) := by
  have e := opens_seek C (min (t + 400) 100000 + 1 - t).toNat t
  rw [h] at e
  unfold nextV
  rw [valid_yes h0 h1, seek_cut (k := (min (t + 400) 100000 + 1 - t).toNat) (by omega), ← e]
  rfl

theorem cell_of_boxL {W : World} {B : Nat} {v : Value} {t : TypeId} (h : W.heap[B]? = some (.cells #[v] t (0, 0))) : W.cell? ⟨B, 0, none⟩ = some v ∧ W.frozen? ⟨B, 0, none⟩ = false := by
  constructor <;> simp [World.cell?, World.frozen?, h]
theorem cell_newL (W : World) (v : Value) (t : TypeId) : (W.alloc (.cells #[v] t)).cell? ⟨W.heap.size, 0, none⟩ = some v ∧ (W.alloc (.cells #[v] t)).frozen? ⟨W.heap.size, 0, none⟩ = false :=
  cell_of_boxL (World.alloc_heap_new W _)
theorem cell_allocL {W : World} {a : Addr} {v : Value} (o : Obj) (h : W.cell? a = some v) : (W.alloc o).cell? a = some v := cell_kept h (World.grownBy_alloc W o none) (fun r e => by cases e)
theorem frozen_allocL {W : World} {a : Addr} {v : Value} (o : Obj) (h : W.cell? a = some v) (hf : W.frozen? a = false) : (W.alloc o).frozen? a = false := (frozen_kept h (World.grownBy_alloc W o none) (fun r e => by cases e)).trans hf

theorem two_cells {W : World} {a b : Nat} {u v : Value} (x y : Value) (hne : a ≠ b) (ha : W.cell? ⟨a, 0, none⟩ = some u) (hb : W.cell? ⟨b, 0, none⟩ = some v) :
    ((W.setCell ⟨a, 0, none⟩ x).setCell ⟨b, 0, none⟩ y).cell? ⟨a, 0, none⟩ = some x ∧ ((W.setCell ⟨a, 0, none⟩ x).setCell ⟨b, 0, none⟩ y).cell? ⟨b, 0, none⟩ = some y := by
  constructor
  · rw [World.cell?_of_block (heap_setCell_other (W.setCell ⟨a, 0, none⟩ x) ⟨b, 0, none⟩ a y hne)]
    exact World.cell?_setCell_same' W ⟨a, 0, none⟩ x (by rw [ha]; rfl)
  · exact World.cell?_setCell_same' _ ⟨b, 0, none⟩ y (by rw [World.cell?_of_block (heap_setCell_other W ⟨a, 0, none⟩ b x (Ne.symm hne)), hb]; rfl)

set_option maxRecDepth 100000 in
set_option maxHeartbeats 2000000 in
theorem nextP_x (o : Nat) (C : Lists) (t : Int) (w : World) (h : OfAt w o C) (hbf : Bf w) :
    Calls Tryd.prog 39 #[.pointer (some ⟨o, 0, none⟩), .int .i64 t] w fun e w' => e = .returned (pv (nextV C t)) ∧ Below w.heap.size w w' := by
  have hro : Fence.wide.round = none := rfl
  cases V : valid t with
  | false =>
    have V' := Lib.hid V
    have hv : Hid (nextV C t = (0, 3)) := by show _ = _; unfold nextV; rw [V]; rfl
    clear V hbf h
    refine (callsIn_wide (n := 3)).1 ?_
    refine callsIn_of_wp_marks Tryd.func39 rfl trivial ?_ hro
    simp only [Tryd.ntmps39, List.size_toArray, List.length_cons, List.length_nil, Nat.reduceAdd, Nat.reduceSub, Array.replicate_succ, Array.replicate_zero, List.push_toArray, List.append_toArray, List.nil_append, List.cons_append]
    gi_wp2
    refine ⟨trivial, (callsIn_wide.2 (isDay_x t _)).mono ?_⟩
    rintro e w1 ⟨rfl, rfl⟩
    rw [V'.out]
    gi_wp2
    refine ⟨.tuple #[.int .i64 0, .int .i64 3], ?_, ?_⟩
    · simp [results, Tryd.f39, go_sem]
    · exact ⟨by rw [hv.out], ((Below.refl _ _).alloc (Nat.le_refl _) _).alloc (by simp) _⟩
  | true =>
    have V' := Lib.hid V
    have hb := valid_iff.1 V
    have h0 := hb.1
    have h1 := hb.2
    obtain ⟨m, hm⟩ : ∃ m, min (t + 400) 100000 = m := ⟨_, rfl⟩
    have Hm := Lib.hid hm
    have H := Lib.hid h
    have HB := Lib.hid hbf
    clear V hbf h hm
    refine (callsIn_wide (n := 3)).1 ?_
    refine callsIn_of_wp_marks Tryd.func39 rfl trivial ?_ hro
    simp only [Tryd.ntmps39, List.size_toArray, List.length_cons, List.length_nil, Nat.reduceAdd, Nat.reduceSub, Array.replicate_succ, Array.replicate_zero, List.push_toArray, List.append_toArray, List.nil_append, List.cons_append]
    gi_wp2
    refine ⟨trivial, (callsIn_wide.2 (isDay_x t _)).mono ?_⟩
    rintro e w1 ⟨rfl, rfl⟩
    rw [V'.out]
    gi_wp2
    obtain ⟨wa, hwa⟩ : ∃ wa, (w.alloc (.cells #[.int .i64 0] 3)).alloc (.cells #[.int .i64 0] 27) = wa := ⟨_, rfl⟩
    rw [hwa, Hm.out]
    have sa : wa.heap.size = w.heap.size + 1 + 1 := by rw [← hwa]; simp
    have Ba : Below w.heap.size w wa := by rw [← hwa]; exact ((Below.refl _ _).alloc (Nat.le_refl _) _).alloc (by simp) _
    have q0 := cell_newL w (.int .i64 0) 3
    have q1 := cell_newL (w.alloc (.cells #[.int .i64 0] 3)) (.int .i64 0) 27
    rw [World.size_alloc] at q1
    have r0 : wa.cell? ⟨w.heap.size, 0, none⟩ = some (.int .i64 0) ∧ wa.frozen? ⟨w.heap.size, 0, none⟩ = false := by rw [← hwa]; exact ⟨cell_allocL _ q0.1, frozen_allocL _ q0.1 q0.2⟩
    have r1 : wa.cell? ⟨w.heap.size + 1, 0, none⟩ = some (.int .i64 0) ∧ wa.frozen? ⟨w.heap.size + 1, 0, none⟩ = false := by rw [← hwa]; exact q1
    clear q0 q1
    refine ⟨trivial, (callsIn_wide.2 (daysP_x _ _ _ _)).mono ?_⟩
    rintro e w1 ⟨rfl, hw1⟩
    have B1 : Below wa.heap.size wa w1 := by rw [hw1]; exact (((Below.refl _ _).alloc (Nat.le_refl _) _).alloc (by simp) _).alloc (by simp; omega) _
    have s1 : w1.heap.size = w.heap.size + 1 + 1 + 1 + 1 + 1 := by rw [hw1]; simp [sa]
    have x3 : w1.cell? ⟨wa.heap.size, 0, none⟩ = some (.pointer (some ⟨o, 0, none⟩)) := by rw [hw1]; exact cell_allocL _ (cell_allocL _ (cell_newL wa _ _).1)
    have x1 : w1.cell? ⟨wa.heap.size + 1, 0, none⟩ = some (.int .i64 t) := by
      rw [hw1]
      have := (cell_newL (wa.alloc (.cells #[.pointer (some ⟨o, 0, none⟩)] 62)) (.int .i64 t) 3).1
      rw [World.size_alloc] at this
      exact cell_allocL _ this
    have x2 : w1.cell? ⟨wa.heap.size + 1 + 1, 0, none⟩ = some (.int .i64 m) := by
      rw [hw1]
      have := (cell_newL ((wa.alloc (.cells #[.pointer (some ⟨o, 0, none⟩)] 62)).alloc (.cells #[.int .i64 t] 3)) (.int .i64 m) 3).1
      rw [World.size_alloc, World.size_alloc] at this
      exact this
    have B2 : Below w.heap.size w w1 := Ba.trans (B1.mono (by omega))
    have O1 : OfAt w1 o C := H.out.next B2
    have F1 : Bf w1 := bf_of HB.out B2
    have y0 : w1.cell? ⟨w.heap.size, 0, none⟩ = some (.int .i64 0) ∧ w1.frozen? ⟨w.heap.size, 0, none⟩ = false := by
      constructor
      · rw [B1.cell (p := ⟨w.heap.size, 0, none⟩) (by show w.heap.size < _; omega)]; exact r0.1
      · rw [World.frozen?_of_block (B1.block w.heap.size (by omega))]; exact r0.2
    have y1 : w1.cell? ⟨w.heap.size + 1, 0, none⟩ = some (.int .i64 0) ∧ w1.frozen? ⟨w.heap.size + 1, 0, none⟩ = false := by
      constructor
      · rw [B1.cell (p := ⟨w.heap.size + 1, 0, none⟩) (by show w.heap.size + 1 < _; omega)]; exact r1.1
      · rw [World.frozen?_of_block (B1.block (w.heap.size + 1) (by omega))]; exact r1.2
    have HS : Hid (SeqStopsK Fence.wide 2 Tryd.prog 46 #[.pointer (some ⟨w.heap.size + 1 + 1 + 1, 0, none⟩), .pointer (some ⟨w.heap.size + 1 + 1 + 1 + 1, 0, none⟩), .pointer (some ⟨w.heap.size + 1 + 1, 0, none⟩)] (fun x : Int => #[Value.int .i64 x]) (Below w1.heap.size)
      (fun ys => ys = opens C (m + 1 - t).toNat t) (fun pre => pre <+: opens C (m + 1 - t).toNat t) (opens C (m + 1 - t).toNat t).length w1) := by
      rw [sa] at x1 x2 x3
      exact days_stops 2 (by omega) o _ _ _ C t m h0 h1 (by have := Hm.out; omega) w1 (Below w1.heap.size) (fun h k => h.trans k) (fun A q => below_drewN (Below.refl _ _) q) (fun _ h => h)
        (fun W hB => ⟨O1.next hB, bf_of F1 hB, (hB.cell (p := ⟨w.heap.size + 1 + 1 + 1, 0, none⟩) (by show w.heap.size + 1 + 1 + 1 < w1.heap.size; omega)).trans x1, (hB.cell (p := ⟨w.heap.size + 1 + 1 + 1 + 1, 0, none⟩) (by show w.heap.size + 1 + 1 + 1 + 1 < w1.heap.size; omega)).trans x2, (hB.cell (p := ⟨w.heap.size + 1 + 1, 0, none⟩) (by show w.heap.size + 1 + 1 < w1.heap.size; omega)).trans x3⟩)
    clear hw1 hwa Ba r0 r1 B1 x1 x2 x3 O1 F1
    rw [sa]
    gi_wp2
    refine wpIn_rangeFunc_ownF hro (by decide) (gf := 46) (lb := #[.pointer (some ⟨w.heap.size + 1 + 1 + 1, 0, none⟩), .pointer (some ⟨w.heap.size + 1 + 1 + 1 + 1, 0, none⟩), .pointer (some ⟨w.heap.size + 1 + 1, 0, none⟩)]) rfl trivial
      (enters_of Tryd.func46 (by kernel_rfl) rfl) HS.out (fun h k => h.trans k) (belowK_b (Nat.le_refl _)) (Below.refl _ _) (fun _ => rfl)
      (fun pre W => (pre = [] ∧ (W.cell? ⟨w.heap.size, 0, none⟩ = some (.int .i64 0) ∧ W.frozen? ⟨w.heap.size, 0, none⟩ = false) ∧ (W.cell? ⟨w.heap.size + 1, 0, none⟩ = some (.int .i64 0) ∧ W.frozen? ⟨w.heap.size + 1, 0, none⟩ = false)) ∧ Below w.heap.size w W)
      (fun c pre W => (c = .ret ∧ ∃ u, pre = [u] ∧ W.cell? ⟨w.heap.size, 0, none⟩ = some (.int .i64 u) ∧ W.cell? ⟨w.heap.size + 1, 0, none⟩ = some (.int .i64 0)) ∧ Below w.heap.size w W)
      (OwnFrom.and (Own.from (fun s A B row hs hg hr => ⟨hs.1, ⟨cell_kept hs.2.1.1 hg hr, (frozen_kept hs.2.1.1 hg hr).trans hs.2.1.2⟩, ⟨cell_kept hs.2.2.1 hg hr, (frozen_kept hs.2.2.1 hg hr).trans hs.2.2.2⟩⟩) _) (ownFrom_below (Nat.le_refl _) (by omega)))
      (fun c => OwnFrom.and (Own.from (fun s A B row hs hg hr => ⟨hs.1, by obtain ⟨u, e, h1, h2⟩ := hs.2; exact ⟨u, e, cell_kept h1 hg hr, cell_kept h2 hg hr⟩⟩) _) (ownFrom_below (Nat.le_refl _) (by omega)))
      ⟨⟨rfl, y0, y1⟩, B2⟩
      (fun x => { tmps := #[.pointer (some ⟨o, 0, none⟩), .int .i64 t, undef, undef, .pointer (some ⟨w.heap.size, 0, none⟩), .pointer (some ⟨w.heap.size + 1, 0, none⟩), .int .i64 x, .int .i64 t, .bool true, .bool false, .pointer (some ⟨o, 0, none⟩), .int .i64 t, .int .i64 t, .int .i64 (t + 400), .int .i64 m,
        .func (.func 46) #[] #[.pointer (some ⟨w.heap.size + 1 + 1 + 1, 0, none⟩), .pointer (some ⟨w.heap.size + 1 + 1 + 1 + 1, 0, none⟩), .pointer (some ⟨w.heap.size + 1 + 1, 0, none⟩)], .int .i64 x, undef], defers := [] }) ?assign ?body ?done ?stop
    case assign =>
      intro l x W K hK
      gi_wp2
      exact hK
    case body =>
      clear y0 y1
      rintro l pre x W ⟨⟨rfl, y0, y1⟩, hB⟩ _
      obtain ⟨y0, z0⟩ := y0
      obtain ⟨y1, z1⟩ := y1
      gi_wp2
      have hw := two_cells (.int .i64 x) (.int .i64 0) (show w.heap.size ≠ w.heap.size + 1 by omega) y0 y1
      exact ⟨(KeepsOthers.setCell _ _ _).trans (KeepsOthers.setCell _ _ _), ⟨rfl, x, rfl, hw.1, hw.2⟩, (hB.setCell (p := ⟨w.heap.size, 0, none⟩) (Nat.le_refl _) _).setCell (p := ⟨w.heap.size + 1, 0, none⟩) (by simp) _⟩
    case done =>
      clear y0 y1
      rintro D ys W hD hys ⟨⟨rfl, y0, y1⟩, hB⟩ hK
      obtain ⟨y0, z0⟩ := y0
      obtain ⟨y1, z1⟩ := y1
      gi_wp2
      have hw := two_cells (.int .i64 0) (.int .i64 3) (show w.heap.size ≠ w.heap.size + 1 by omega) y0 y1
      have hK' := ((KeepsOthers.setCell W ⟨w.heap.size, 0, none⟩ (.int .i64 0)).trans (KeepsOthers.setCell _ ⟨w.heap.size + 1, 0, none⟩ (.int .i64 3))).same D _ hK rfl
      refine ⟨by simp, .inl ⟨_, _, rfl, run_takeDeferred hK', ?_⟩⟩
      have c0 := cell_kept hw.1 (grownBy_putObj' _ D (.deferred none)) (fun r e => by cases e; exact ⟨_, hK', rfl⟩)
      have c1 := cell_kept hw.2 (grownBy_putObj' _ D (.deferred none)) (fun r e => by cases e; exact ⟨_, hK', rfl⟩)
      refine ⟨.tuple #[.int .i64 0, .int .i64 3], ?_, ?_, ?_⟩
      · simp [results, Tryd.f39, go_sem, c0, c1]
      · rw [next_end h0 h1 (by rw [Hm.out]; exact hys.symm)]
      · exact ((hB.setCell (p := ⟨w.heap.size, 0, none⟩) (Nat.le_refl _) _).setCell (p := ⟨w.heap.size + 1, 0, none⟩) (by simp) _).trans (belowK_b (w := w) (Nat.le_refl _) _ D _ _ (by omega) hK' rfl rfl)
    case stop =>
      clear y0 y1
      rintro D c pre W hD hpre ⟨⟨rfl, u, rfl, hu, hz⟩, hB⟩ hK
      gi_wp2
      refine ⟨by simp, .inl ⟨_, _, rfl, run_takeDeferred hK, ?_⟩⟩
      have c0 := cell_kept hu (grownBy_putObj' _ D (.deferred none)) (fun r e => by cases e; exact ⟨_, hK, rfl⟩)
      have c1 := cell_kept hz (grownBy_putObj' _ D (.deferred none)) (fun r e => by cases e; exact ⟨_, hK, rfl⟩)
      refine ⟨.tuple #[.int .i64 u, .int .i64 0], ?_, ?_, ?_⟩
      · simp [results, Tryd.f39, go_sem, c0, c1]
      · rw [next_of h0 h1 (pre := []) (by rw [Hm.out]; exact hpre) rfl]
      · exact hB.trans (belowK_b (w := w) (Nat.le_refl _) W D _ _ (by omega) hK rfl rfl)

end Go.Proofs.YtmlelmknbddkjaaDoor
