/-
  The program's newSearch and reached; clear.
-/
import Derived.Test.YtndcbhgdlaemaaaProB
import Derived.Test.YtndcbhgdlaemaaaHand
namespace Go.Proofs.Ytndcbhgdlaemaaa
open Go.RowKit Gr

theorem made_stp (n : Nat) : (madeCells (Value.int .i64 0).cells (n * 1)).toList = stp n (fun _ => 0) := by
  rw [Nat.mul_one, show (Value.int .i64 0).cells = #[Value.int .i64 0] from rfl, toList_madeCells_one]
  symm
  rw [List.eq_replicate_iff]
  refine ⟨stp_len _ _, fun b hb => ?_⟩
  simp only [stp, ints, List.mem_map] at hb
  obtain ⟨_, ⟨_, _, rfl⟩, rfl⟩ := hb
  rfl
/-- making a slice, at the operation -/
theorem step_full {P : Program} {w : World} {o : Oper} {a : Act} {K : Act → World → Prop} {Q : Exit → Act → World → Prop} (l c : Operand) (t : TypeId) (hop : o.op = Op.makeSlice t l c)
    (base : Nat) (e : TypeId) (i : TypeInfo) (z : Value) (size : Nat) (h1 : P.underlying t = some (.slice e)) (h2 : P.info? e = some i) (h3 : i.zero = some z) (h4 : i.size = size)
    (n : Nat) (hl : a.eval l = .int .i64 (n : Int)) (hc : a.eval c = .int .i64 (n : Int)) (b2 : i.bytes * n ≤ 281474976710656) (b3 : n ≤ maxLen) (b4 : base ≤ w.heap.size)
    (hK : ∀ w', w'.ownsRow base e size (.slice (some ⟨w.heap.size, 0, none⟩) n n) n (madeCells z.cells (n * size)).toList → w.grownBy w' none → K (a.put o.dst (.slice (some ⟨w.heap.size, 0, none⟩) n n)) w') :
    Oper.wp P o a w K Q := by
  obtain ⟨w', hrun, r1, r2⟩ := run_make_full (P := P) w base t e i z size h1 h2 h3 h4 .i64 .i64 n b2 b3 b4
  unfold Oper.wp
  simp [execOp, hop, hl, hc, hrun, Result.andThen]
  exact hK w' r1 r2
theorem step_own {P : Program} {w : World} {o : Oper} {a : Act} {K : Act → World → Prop} {Q : Exit → Act → World → Prop} (l c : Operand) (t : TypeId) (hop : o.op = Op.makeSlice t l c)
    (base : Nat) (e : TypeId) (i : TypeInfo) (z : Value) (size : Nat) (h1 : P.underlying t = some (.slice e)) (h2 : P.info? e = some i) (h3 : i.zero = some z) (h4 : i.size = size)
    (n : Nat) (hl : a.eval l = .int .i64 0) (hc : a.eval c = .int .i64 (n : Int)) (b2 : i.bytes * n ≤ 281474976710656) (b3 : n ≤ maxLen) (b4 : base ≤ w.heap.size)
    (hK : ∀ w', w'.ownsRow base e size (.slice (some ⟨w.heap.size, 0, none⟩) 0 n) 0 [] → w.grownBy w' none → K (a.put o.dst (.slice (some ⟨w.heap.size, 0, none⟩) 0 n)) w') :
    Oper.wp P o a w K Q := by
  obtain ⟨w', hrun, r1, r2⟩ := run_make_own (P := P) w base t e i z size h1 h2 h3 h4 .i64 .i64 n b2 b3 b4
  unfold Oper.wp
  simp [execOp, hop, hl, hc, hrun, Result.andThen]
  exact hK w' r1 r2
theorem grown_below {w w' : World} (h : w.grownBy w' none) : Below w.heap.size w w' := (Below.refl _ w).grown h (Nat.le_refl _) (fun k hk => by cases hk)
/-- the new search -/
theorem sr_new {w W : World} {gs gq n : Nat} {near : Value} (hb : Below w.heap.size w W) (hs : W.ownsRow w.heap.size 3 1 (.slice (some ⟨gs, 0, none⟩) n n) n (stp n (fun _ => 0)))
    (hq : W.ownsRow w.heap.size 3 1 (.slice (some ⟨gq, 0, none⟩) 0 n) 0 []) (hne : gs ≠ gq) (T : TypeId) :
    Sr w.heap.size (W.alloc (.cells #[near, .slice (some ⟨gs, 0, none⟩) n n, .slice (some ⟨gq, 0, none⟩) 0 n] T)).heap.size W.heap.size gs gq n near (W.alloc (.cells #[near, .slice (some ⟨gs, 0, none⟩) n n, .slice (some ⟨gq, 0, none⟩) 0 n] T)) (fun _ => 0) [] := by
  have hz1 : (W.alloc (.cells #[near, .slice (some ⟨gs, 0, none⟩) n n, .slice (some ⟨gq, 0, none⟩) 0 n] T)).heap.size = W.heap.size + 1 := by simp
  have h1 := hs.lt gs rfl
  have h2 := hq.lt gq rfl
  have hz := hb.size
  refine ⟨⟨hz, by omega⟩, ⟨h1.1, by omega⟩, ⟨h2.1, by omega⟩, by omega, by omega, hne, by simp, ?_, ?_, ?_, ?_, ?_, hq.alloc _⟩
  · rw [World.cell?_alloc_new]; rfl
  · rw [World.cell?_alloc_new]; rfl
  · rw [World.cell?_alloc_new]; rfl
  · simp
  · exact (Row.own hs (stp_len _ _).symm).next ((Below.refl _ _).alloc (Nat.le_refl _) _)

set_option maxHeartbeats 3200000 in
theorem newSearch_x (a : Option Addr) (n cap : Nat) (w : World) (hn : n ≤ 300) :
    Calls Try.prog 30 #[.slice a n cap] w fun r w' => ∃ gp gs gq, r = .returned (.pointer (some ⟨gp, 0, none⟩)) ∧ Sr w.heap.size w'.heap.size gp gs gq n (.slice a n cap) w' (fun _ => 0) [] ∧ Below w.heap.size w w' := by
  obtain ⟨rj, hj, hy0, hy1, hy2⟩ := info_parts infoI
  have Hj := Lib.hid hj
  have Hy0 := Lib.hid hy0
  have Hy1 := Lib.hid hy1
  have Hy2 := Lib.hid hy2
  clear hy0 hy1 hy2
  go_enter Try.func30, Try.ntmps30
  go_wp2_with fail
  refine wp_region_held_drew (S := fun _ => True) (by kernel_rfl) ?_ (fun hHeld => ?_)
  · trivial
  refine takeN0 (v := ?_) (by kernel_rfl) (by kernel_rfl) (by kernel_rfl) (fun _ _ _ h => h) (by rfl) ?_ (by assumption) ?_
  rotate_left
  · intro wz hSw
    try dsimp only at hSw
    go_simp
    try with_reducible rfl
  try simp only [Act.put, List.setIfInBounds_toArray, List.set_cons_zero, List.set_cons_succ]
  refine takeN1 (v := ?_) (by kernel_rfl) (by kernel_rfl) (by kernel_rfl) (fun _ _ _ h => h) (by rfl) ?_ (by assumption) ?_
  rotate_left
  · intro wz hSw
    try dsimp only at hSw
    go_simp
    try with_reducible rfl
  try simp only [Act.put, List.setIfInBounds_toArray, List.set_cons_zero, List.set_cons_succ]
  refine takeN2 (v := ?_) (by kernel_rfl) (by kernel_rfl) (by kernel_rfl) (fun _ _ _ h => h) (by rfl) ?_ (by assumption) ?_
  rotate_left
  · intro wz hSw
    try dsimp only at hSw
    go_simp
    try with_reducible rfl
  try simp only [Act.put, List.setIfInBounds_toArray, List.set_cons_zero, List.set_cons_succ]
  refine takeN4 (v := ?_) (by kernel_rfl) (by kernel_rfl) (by kernel_rfl) (fun _ _ _ h => h) (by rfl) ?_ (by assumption) ?_
  rotate_left
  · intro wz hSw
    try dsimp only at hSw
    go_simp
    try with_reducible rfl
  try simp only [Act.put, List.setIfInBounds_toArray, List.set_cons_zero, List.set_cons_succ]
  refine takeN5 (v := ?_) (by kernel_rfl) (by kernel_rfl) (by kernel_rfl) (fun _ _ _ h => h) (by rfl) ?_ (by assumption) ?_
  rotate_left
  · intro wz hSw
    try dsimp only at hSw
    go_simp
    try with_reducible rfl
  try simp only [Act.put, List.setIfInBounds_toArray, List.set_cons_zero, List.set_cons_succ]
  refine wpAnyH_ready (rs := [3, 6]) (by kernel_rfl) (by simp) (AllReadyH.cons rfl (fun K hK => ?_) (AllReadyH.cons rfl (fun K hK => ?_) AllReadyH.nil))
  · rw [if_pos (by rfl)]
    refine step_full (.tmp 5) (.tmp 5) 25 rfl w.heap.size 3 rj (.int .i64 0) 1 Try.underlying25 Hj.out Hy0.out Hy1.out n rfl rfl (by rw [Hy2.out]; omega) (by unfold maxLen; omega) (Nat.le_refl _) (fun w1 hs1 hg1 => ?_)
    refine hK.out _ _ ?_ (fun hHeld => ?_)
    · trivial
    clear hK K
    try simp only [Act.put, List.setIfInBounds_toArray]
    refine comeN6 (by kernel_rfl) (by rfl) (fun K hK => ?_)
    refine step_own (.const (.int .i64 0)) (.tmp 8) 25 rfl w.heap.size 3 rj (.int .i64 0) 1 Try.underlying25 Hj.out Hy0.out Hy1.out n rfl rfl (by rw [Hy2.out]; omega) (by unfold maxLen; omega) (by have := hg1.size; simpa using this) (fun w2 hq2 hg2 => ?_)
    refine hK.out _ _ ?_ (fun hHeld => ?_)
    · trivial
    clear hK K
    try simp only [Act.put]
    clear hj
    refine takeN7 (v := ?_) (by kernel_rfl) (by kernel_rfl) (by kernel_rfl) (fun _ _ _ h => h) (by rfl) ?_ (by assumption) ?_
    rotate_left
    · intro wz hSw
      go_simp
      try with_reducible rfl
    try simp only [Act.put]
    refine comeN8 (by kernel_rfl) (by rfl) (fun K hK => ?_)
    go_simp
    refine hK.out _ _ trivial (fun hHeld => ?_)
    clear hK K
    try simp only [Act.put, List.setIfInBounds_toArray, List.set_cons_zero, List.set_cons_succ]
    refine takeN9 (v := ?_) (by kernel_rfl) (by kernel_rfl) (by kernel_rfl) (fun _ _ _ h => h) (by rfl) ?_ (by assumption) ?_
    rotate_left
    · intro wz hSw
      try dsimp only at hSw
      go_simp
      try with_reducible rfl
    try simp only [Act.put, List.setIfInBounds_toArray, List.set_cons_zero, List.set_cons_succ]
    refine wpAnyH_done (by kernel_rfl) ?_ _
    go_wp2_with fail
    go_ret
    have hlt := (hs1.lt _ rfl).2
    refine ⟨_, _, _, rfl, sr_new (w := w) (W := w2) (chain ((Below.refl _ w).drew.grown hg1 (Nat.le_refl _) (fun k hk => by cases hk)) (grown_below hg2)) (by rw [← made_stp]; exact own_below hs1 (grown_below hg2)) hq2 (by simp at hlt ⊢; omega) _, ?_⟩
    exact (chain (chain ((Below.refl _ w).drew.grown hg1 (Nat.le_refl _) (fun k hk => by cases hk)) (grown_below hg2)) (Below.new1 _))
  · rw [if_pos (by rfl)]
    refine step_own (.const (.int .i64 0)) (.tmp 8) 25 rfl w.heap.size 3 rj (.int .i64 0) 1 Try.underlying25 Hj.out Hy0.out Hy1.out n rfl rfl (by rw [Hy2.out]; omega) (by unfold maxLen; omega) (Nat.le_refl _) (fun w1 hq1 hg1 => ?_)
    refine hK.out _ _ ?_ (fun hHeld => ?_)
    · trivial
    clear hK K
    try simp only [Act.put, List.setIfInBounds_toArray]
    refine comeN3 (by kernel_rfl) (by rfl) (fun K hK => ?_)
    refine step_full (.tmp 5) (.tmp 5) 25 rfl w.heap.size 3 rj (.int .i64 0) 1 Try.underlying25 Hj.out Hy0.out Hy1.out n rfl rfl (by rw [Hy2.out]; omega) (by unfold maxLen; omega) (by have := hg1.size; simpa using this) (fun w2 hs2 hg2 => ?_)
    refine hK.out _ _ ?_ (fun hHeld => ?_)
    · trivial
    clear hK K
    try simp only [Act.put]
    clear hj
    refine takeN7 (v := ?_) (by kernel_rfl) (by kernel_rfl) (by kernel_rfl) (fun _ _ _ h => h) (by rfl) ?_ (by assumption) ?_
    rotate_left
    · intro wz hSw
      go_simp
      try with_reducible rfl
    try simp only [Act.put]
    refine comeN8 (by kernel_rfl) (by rfl) (fun K hK => ?_)
    go_simp
    refine hK.out _ _ trivial (fun hHeld => ?_)
    clear hK K
    try simp only [Act.put, List.setIfInBounds_toArray, List.set_cons_zero, List.set_cons_succ]
    refine takeN9 (v := ?_) (by kernel_rfl) (by kernel_rfl) (by kernel_rfl) (fun _ _ _ h => h) (by rfl) ?_ (by assumption) ?_
    rotate_left
    · intro wz hSw
      try dsimp only at hSw
      go_simp
      try with_reducible rfl
    try simp only [Act.put, List.setIfInBounds_toArray, List.set_cons_zero, List.set_cons_succ]
    refine wpAnyH_done (by kernel_rfl) ?_ _
    go_wp2_with fail
    go_ret
    have hlt := (hq1.lt _ rfl).2
    refine ⟨_, _, _, rfl, sr_new (w := w) (W := w2) (chain ((Below.refl _ w).drew.grown hg1 (Nat.le_refl _) (fun k hk => by cases hk)) (grown_below hg2)) (by rw [← made_stp]; exact hs2) (own_below hq1 (grown_below hg2)) (by simp at hlt ⊢; omega) _, ?_⟩
    exact (chain (chain ((Below.refl _ w).drew.grown hg1 (Nat.le_refl _) (fun k hk => by cases hk)) (grown_below hg2)) (Below.new1 _))

/-- .. and the reading of a search -/
theorem reached_x {lo hi gp gs gq n : Nat} {near : Value} {w : World} {f : Int → Int} {q : List Int} (h : Sr lo hi gp gs gq n near w f q) {v : Nat} (hv : v < n) :
    Calls Try.prog 32 #[.pointer (some ⟨gp, 0, none⟩), .int .i64 (v : Int)] w fun r w' => r = .returned (.bool (decide (0 < f (v : Int)))) ∧ w = w' := by
  have c1 := h.c1
  have r1 := h.row.c v _ (stp_get hv)
  have l1 := h.row.lt
  have l2 : gp < w.heap.size := Nat.lt_of_lt_of_le h.p1.2 h.hi1
  have v0 : (0 : Int) ≤ (v : Int) := by omega
  have v1 : (v : Int) < (n : Int) := by omega
  clear h
  obtain ⟨x, hx⟩ : ∃ x, f (v : Int) = x := ⟨_, rfl⟩
  rw [hx] at r1 ⊢
  clear hx
  go_enter Try.func32, Try.ntmps32
  go_wp2_with fail
  go_ret
  exact ⟨rfl, rfl⟩

end Go.Proofs.Ytndcbhgdlaemaaa
