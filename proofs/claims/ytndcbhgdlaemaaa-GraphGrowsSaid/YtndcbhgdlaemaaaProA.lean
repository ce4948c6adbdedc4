/-
  Lists in memory that stand while others are written; the program's search in memory.
-/
import Derived.Test.YtndcbhgdlaemaaaLawA
import Derived.Test.YtndcbhgdlaemaaaCyk
import Derived.Test.YtndcbhgdlaemaaaOrg
import Derived.Lib.SliceRun
namespace Go.Proofs.Ytndcbhgdlaemaaa
open Go.RowKit Gr

/-- outside of the blocks lo .. hi the world is as it was -/
structure Keep (lo hi : Nat) (w w' : World) : Prop where
  os : w'.os = w.os
  tape : w'.tape = w.tape
  output : w'.output = w.output
  size : w.heap.size ≤ w'.heap.size
  block : ∀ k, k < w.heap.size → (k < lo ∨ hi ≤ k) → w'.heap[k]? = w.heap[k]?
theorem Keep.refl (lo hi : Nat) (w : World) : Keep lo hi w w := ⟨rfl, rfl, rfl, Nat.le_refl _, fun _ _ _ => rfl⟩
theorem Keep.trans {lo hi : Nat} {a b c : World} (h : Keep lo hi a b) (k : Keep lo hi b c) : Keep lo hi a c :=
  ⟨k.os.trans h.os, k.tape.trans h.tape, k.output.trans h.output, Nat.le_trans h.size k.size, fun i hi ho => (k.block i (Nat.lt_of_lt_of_le hi h.size) ho).trans (h.block i hi ho)⟩
theorem Keep.of {w w' : World} (h : Below w.heap.size w w') (lo hi : Nat) : Keep lo hi w w' := ⟨h.os, h.tape, h.output, h.size, fun k hk _ => h.block k hk⟩
theorem Keep.mono {lo hi lo' hi' : Nat} {w w' : World} (h : Keep lo hi w w') (h1 : lo' ≤ lo) (h2 : hi ≤ hi') : Keep lo' hi' w w' := ⟨h.os, h.tape, h.output, h.size, fun k hk ho => h.block k hk (by omega)⟩
theorem Keep.below {lo hi B : Nat} {w w' : World} (h : Keep lo hi w w') (hB : B ≤ lo) (hs : B ≤ w.heap.size) : Below B w w' := ⟨h.os, h.tape, h.output, h.size, fun k hk => h.block k (by omega) (by omega)⟩
theorem Keep.cell {lo hi : Nat} {w w' : World} (h : Keep lo hi w w') {b : Nat} (o : Nat) (hb : b < w.heap.size) (ho : b < lo ∨ hi ≤ b) : w'.cell? ⟨b, o, none⟩ = w.cell? ⟨b, o, none⟩ := World.cell?_of_block (a := ⟨b, o, none⟩) (h.block b hb ho)
theorem Keep.frozen {lo hi : Nat} {w w' : World} (h : Keep lo hi w w') {b : Nat} (o : Nat) (hb : b < w.heap.size) (ho : b < lo ∨ hi ≤ b) : w'.frozen? ⟨b, o, none⟩ = w.frozen? ⟨b, o, none⟩ := World.frozen?_of_block (a := ⟨b, o, none⟩) (h.block b hb ho)
theorem Keep.set {lo hi : Nat} (w : World) {g : Nat} (o : Nat) (v : Value) (h1 : lo ≤ g) (h2 : g < hi) : Keep lo hi w (w.setCell ⟨g, o, none⟩ v) :=
  ⟨rfl, rfl, rfl, by simp [World.setCell], fun k _ ho => Below.heap_setCell _ _ _ _ (by show k ≠ g; omega)⟩
theorem Keep.grown {lo hi : Nat} {w w' : World} {row : Option Nat} (hg : w.grownBy w' row) (hr : ∀ k, row = some k → lo ≤ k ∧ k < hi) : Keep lo hi w w' :=
  ⟨hg.os, hg.tape, hg.output, hg.size, fun k hk ho => hg.block k hk fun e => by have := hr k e.symm; omega⟩
theorem Keep.sets {lo hi g : Nat} (h1 : lo ≤ g) (h2 : g < hi) : ∀ (vs : List Value) (o : Nat) (w : World), Keep lo hi w (w.setCells g o vs)
  | [], _, w => Keep.refl _ _ w
  | v :: vs, o, w => (Keep.set w o v h1 h2).trans (Keep.sets h1 h2 vs (o + 1) _)

/-- a slice value reads as a list, in a block from lo to hi -/
def SIn (lo hi : Nat) (w : World) (v : Value) (l : List Value) : Prop := ∃ a cap, v = .slice a l.length cap ∧ l.length ≤ cap ∧ ∀ (j : Nat) (x : Value), l[j]? = some x → ∃ b off, a = some ⟨b, off, none⟩ ∧ (lo ≤ b ∧ b < hi) ∧ b < w.heap.size ∧ w.cell? ⟨b, off + j, none⟩ = some x
def LIn (lo hi : Nat) (w : World) (v : Value) (L : List (List Int)) : Prop := ∃ vs : List Value, SIn lo hi w v vs ∧ vs.length = L.length ∧ ∀ (i : Nat) (x : Value) (l : List Int), vs[i]? = some x → L[i]? = some l → SIn lo hi w x (ints l)
theorem SIn.keep {lo hi a b : Nat} {w w' : World} {v : Value} {l : List Value} (h : SIn lo hi w v l) (hk : Keep a b w w') (ho : hi ≤ a ∨ b ≤ lo) : SIn lo hi w' v l := by
  obtain ⟨ad, cap, rfl, hcap, h⟩ := h
  refine ⟨ad, cap, rfl, hcap, fun j x hx => ?_⟩
  obtain ⟨g, off, e, hr, hlt, hc⟩ := h j x hx
  exact ⟨g, off, e, hr, Nat.lt_of_lt_of_le hlt hk.size, by rw [hk.cell _ hlt (by omega)]; exact hc⟩
theorem LIn.keep {lo hi a b : Nat} {w w' : World} {v : Value} {L : List (List Int)} (h : LIn lo hi w v L) (hk : Keep a b w w') (ho : hi ≤ a ∨ b ≤ lo) : LIn lo hi w' v L := by
  obtain ⟨vs, h1, h2, h3⟩ := h
  exact ⟨vs, h1.keep hk ho, h2, fun i x l hx hl => (h3 i x l hx hl).keep hk ho⟩
theorem SIn.below {lo hi : Nat} {w w' : World} {v : Value} {l : List Value} (h : SIn lo hi w v l) (hb : Below w.heap.size w w') : SIn lo hi w' v l := h.keep (Keep.of hb hi hi) (.inl (Nat.le_refl _))
theorem LIn.below {lo hi : Nat} {w w' : World} {v : Value} {L : List (List Int)} (h : LIn lo hi w v L) (hb : Below w.heap.size w w') : LIn lo hi w' v L := h.keep (Keep.of hb hi hi) (.inl (Nat.le_refl _))
theorem SIn.at_ {lo hi : Nat} {w : World} {v : Value} {l : List Value} (h : SIn lo hi w v l) : SAt w v l := by
  obtain ⟨a, cap, e, hcap, h⟩ := h
  exact ⟨a, cap, e, hcap, fun j x hx => by
    obtain ⟨b, off, e1, -, h2, h3⟩ := h j x hx
    exact ⟨b, off, e1, h2, h3⟩⟩
theorem SIn.mono {lo hi lo' hi' : Nat} {w : World} {v : Value} {l : List Value} (h : SIn lo hi w v l) (h1 : lo' ≤ lo) (h2 : hi ≤ hi') : SIn lo' hi' w v l := by
  obtain ⟨a, cap, e, hcap, h⟩ := h
  exact ⟨a, cap, e, hcap, fun j x hx => by
    obtain ⟨b, off, e1, h0, h3⟩ := h j x hx
    exact ⟨b, off, e1, by omega, h3⟩⟩
theorem LIn.mono {lo hi lo' hi' : Nat} {w : World} {v : Value} {L : List (List Int)} (h : LIn lo hi w v L) (h1 : lo' ≤ lo) (h2 : hi ≤ hi') : LIn lo' hi' w v L := by
  obtain ⟨vs, a, b, c⟩ := h
  exact ⟨vs, a.mono h1 h2, b, fun i x l hx hl => (c i x l hx hl).mono h1 h2⟩
theorem SIn.own {base hi n : Nat} {w : World} {T : TypeId} {v : Value} {l : List Value} (h : w.ownsRow base T 1 v n l) (hn : n = l.length) (hh : w.heap.size ≤ hi) : SIn base hi w v l := by
  subst hn
  rcases h.2 with ⟨rfl, h0⟩ | ⟨g, cap, cur, rfl, hg, hgg, h1, h2, h3, h4⟩
  · exact ⟨none, 0, by rw [h0], by omega, fun j r hj => by
      have := (List.getElem?_eq_some_iff.1 hj).1
      omega⟩
  · have hr : Row w g l := Row.own h rfl
    have := hr.lt
    exact ⟨_, cap, rfl, h1, fun j x hx => ⟨g, 0, rfl, ⟨hg, by omega⟩, hr.lt, by rw [Nat.zero_add]; exact hr.c j x hx⟩⟩
theorem SIn.nil (lo hi : Nat) (w : World) : SIn lo hi w (.slice none 0 0) [] := ⟨none, 0, rfl, Nat.le_refl _, fun j x h => by simp at h⟩
/-- an element of a list of lists -/
theorem LIn.el {lo hi : Nat} {w : World} {v : Value} {L : List (List Int)} (h : LIn lo hi w v L) {i : Nat} {l : List Int} (hl : L[i]? = some l) : ∃ x, SIn lo hi w x (ints l) ∧ ∃ a cap b off, v = .slice a L.length cap ∧ a = some ⟨b, off, none⟩ ∧ b < w.heap.size ∧ (lo ≤ b ∧ b < hi) ∧ w.cell? ⟨b, off + i, none⟩ = some x := by
  obtain ⟨vs, ⟨a, cap, e, -, h1⟩, h2, h3⟩ := h
  have hi' : i < vs.length := by rw [h2]; exact (List.getElem?_eq_some_iff.1 hl).1
  have hx := List.getElem?_eq_getElem hi'
  obtain ⟨b, off, e1, hr, hlt, hc⟩ := h1 i _ hx
  exact ⟨_, h3 i _ l hx hl, a, cap, b, off, by rw [e, h2], e1, hlt, hr, hc⟩

theorem Row.keep {lo hi g : Nat} {w w' : World} {l : List Value} (h : Row w g l) (hk : Keep lo hi w w') (ho : g < lo ∨ hi ≤ g) : Row w' g l :=
  ⟨Nat.lt_of_lt_of_le h.lt hk.size, fun j v hv => by rw [hk.cell _ h.lt ho]; exact h.c j v hv, fun j hj => by rw [hk.frozen _ h.lt ho]; exact h.fz j hj⟩
theorem Row.next {g : Nat} {w w' : World} {l : List Value} (h : Row w g l) (hb : Below w.heap.size w w') : Row w' g l := h.below hb h.lt
theorem Row.sets {g : Nat} : ∀ (vs : List Value) (o : Nat) (w : World) (l : List Value), Row w g l → o + vs.length ≤ l.length → Row (w.setCells g o vs) g (l.take o ++ (vs ++ l.drop (o + vs.length)))
  | [], o, w, l, h, hl => by simpa [World.setCells] using h
  | v :: vs, o, w, l, h, hl => by
    simp only [List.length_cons] at hl
    have h1 := Row.sets vs (o + 1) (w.setCell ⟨g, o, none⟩ v) (l.set o v) (h.set o v (by omega)) (by simp; omega)
    have e : (l.set o v).take (o + 1) ++ (vs ++ (l.set o v).drop (o + 1 + vs.length)) = l.take o ++ (v :: vs ++ l.drop (o + (v :: vs).length)) := by
      rw [List.drop_set_of_lt (by omega), List.take_add_one, List.getElem?_set_self (by omega), List.take_set_of_le (Nat.le_refl _), List.length_cons, show o + 1 + vs.length = o + (vs.length + 1) by omega]
      simp
    rw [e] at h1
    exact h1
theorem own_keep {W W' : World} {lo hi base n : Nat} {T : TypeId} {v : Value} {xs : List Value} (h : W.ownsRow base T 1 v n xs) (hk : Keep lo hi W W') (ho : hi ≤ base) : W'.ownsRow base T 1 v n xs := by
  refine ⟨h.1, ?_⟩
  rcases h.2 with ⟨h1, h2⟩ | ⟨g, cap, cur, h1, h2, h3, h4⟩
  · exact .inl ⟨h1, h2⟩
  · exact .inr ⟨g, cap, cur, h1, h2, by rw [hk.block g (Array.getElem?_eq_some_iff.1 h3).1 (by omega)]; exact h3, h4⟩
/-- an own row, at its block -/
theorem own_heap {W W' : World} {base g n cap : Nat} {T : TypeId} {xs : List Value} (h : W.ownsRow base T 1 (.slice (some ⟨g, 0, none⟩) n cap) n xs) (hb : W'.heap[g]? = W.heap[g]?) : W'.ownsRow base T 1 (.slice (some ⟨g, 0, none⟩) n cap) n xs := by
  refine ⟨h.1, ?_⟩
  rcases h.2 with ⟨h1, h2⟩ | ⟨g', cap', cur, h1, h2, h3, h4⟩
  · cases h1
  · refine .inr ⟨g', cap', cur, h1, h2, ?_, h4⟩
    cases h1
    rw [hb]
    exact h3
theorem own_zero {W : World} {base g n cap : Nat} {T : TypeId} {xs : List Value} (h : W.ownsRow base T 1 (.slice (some ⟨g, 0, none⟩) n cap) n xs) : W.ownsRow base T 1 (.slice (some ⟨g, 0, none⟩) 0 cap) 0 [] := by
  refine ⟨rfl, ?_⟩
  rcases h.2 with ⟨h1, h2⟩ | ⟨g', cap', cur, h1, h2, h3, h4, h5, h6, h7⟩
  · cases h1
  · cases h1
    exact .inr ⟨g, cap, cur, rfl, h2, h3, Nat.zero_le _, h5, h6, by simp⟩

/-! the search in memory -/
abbrev stp (n : Nat) (f : Int → Int) : List Value := ints ((nodes n).map f)
theorem stp_len (n : Nat) (f : Int → Int) : (stp n f).length = n := by rw [List.length_map, List.length_map, nodes_len]; simp
theorem stp_get {n : Nat} {f : Int → Int} {i : Nat} (h : i < n) : (stp n f)[i]? = some (.int .i64 (f i)) := by
  rw [List.getElem?_map, List.getElem?_map, nodes_get (by simpa using h)]
  rfl
theorem stp_set (n : Nat) (f : Int → Int) (i : Nat) (d : Int) : (stp n f).set i (.int .i64 d) = stp n (upd f i d) := by
  apply List.ext_getElem?
  intro j
  rw [List.getElem?_set]
  by_cases c : i = j
  · subst c
    rw [if_pos rfl]
    by_cases d2 : i < n
    · rw [if_pos (by rw [stp_len]; exact d2), stp_get d2, upd_same]
    · rw [if_neg (by rw [stp_len]; exact d2), List.getElem?_eq_none (by rw [stp_len]; omega)]
  · rw [if_neg c]
    by_cases d2 : j < n
    · rw [stp_get d2, stp_get d2, upd_other (by omega)]
    · rw [List.getElem?_eq_none (by rw [stp_len]; omega), List.getElem?_eq_none (by rw [stp_len]; omega)]
structure Sr (lo hi gp gs gq n : Nat) (near : Value) (w : World) (f : Int → Int) (q : List Int) : Prop where
  p1 : lo ≤ gp ∧ gp < hi
  s1 : lo ≤ gs ∧ gs < hi
  q1 : lo ≤ gq ∧ gq < hi
  ps : gp ≠ gs
  pq : gp ≠ gq
  sq : gs ≠ gq
  hi1 : hi ≤ w.heap.size
  c0 : w.cell? ⟨gp, 0, none⟩ = some near
  c1 : w.cell? ⟨gp, 1, none⟩ = some (.slice (some ⟨gs, 0, none⟩) n n)
  c2 : w.cell? ⟨gp, 2, none⟩ = some (.slice (some ⟨gq, 0, none⟩) q.length n)
  z2 : w.frozen? ⟨gp, 2, none⟩ = false
  row : Row w gs (stp n f)
  que : w.ownsRow lo 3 1 (.slice (some ⟨gq, 0, none⟩) q.length n) q.length (ints q)
theorem Sr.keep {lo hi a b gp gs gq n : Nat} {near : Value} {w w' : World} {f : Int → Int} {q : List Int} (h : Sr lo hi gp gs gq n near w f q) (hk : Keep a b w w') (ho : hi ≤ a ∨ b ≤ lo) : Sr lo hi gp gs gq n near w' f q := by
  have hp := h.p1
  have hq := h.q1
  have hs := h.s1
  have h1 := h.hi1
  refine ⟨hp, h.s1, hq, h.ps, h.pq, h.sq, Nat.le_trans h1 hk.size, ?_, ?_, ?_, ?_, h.row.keep hk (by omega), own_heap h.que (hk.block gq (by omega) (by omega))⟩
  · rw [hk.cell _ (by omega) (by omega)]; exact h.c0
  · rw [hk.cell _ (by omega) (by omega)]; exact h.c1
  · rw [hk.cell _ (by omega) (by omega)]; exact h.c2
  · rw [hk.frozen _ (by omega) (by omega)]; exact h.z2
theorem Sr.below {lo hi gp gs gq n : Nat} {near : Value} {w w' : World} {f : Int → Int} {q : List Int} (h : Sr lo hi gp gs gq n near w f q) (hb : Below w.heap.size w w') : Sr lo hi gp gs gq n near w' f q := h.keep (Keep.of hb hi hi) (.inl (Nat.le_refl _))
theorem Sr.drewN {lo hi gp gs gq n : Nat} {near : Value} {w : World} {f : Int → Int} {q : List Int} (h : Sr lo hi gp gs gq n near w f q) (k : Nat) : Sr lo hi gp gs gq n near (w.drewN k) f q := h.below (below_drewN (Below.refl _ _) k)
/-- a store into the steps -/
theorem Sr.step {lo hi gp gs gq n : Nat} {near : Value} {w : World} {f : Int → Int} {q : List Int} (h : Sr lo hi gp gs gq n near w f q) {i : Nat} (hi' : i < n) (d : Int) : Sr lo hi gp gs gq n near (w.setCell ⟨gs, i, none⟩ (.int .i64 d)) (upd f i d) q := by
  have hc : ∀ o, (w.setCell ⟨gs, i, none⟩ (.int .i64 d)).cell? ⟨gp, o, none⟩ = w.cell? ⟨gp, o, none⟩ := fun o => World.cell?_of_block (a := ⟨gp, o, none⟩) (Below.heap_setCell _ _ _ _ (show gp ≠ gs from h.ps))
  have hf : (w.setCell ⟨gs, i, none⟩ (.int .i64 d)).frozen? ⟨gp, 2, none⟩ = w.frozen? ⟨gp, 2, none⟩ := World.frozen?_of_block (a := ⟨gp, 2, none⟩) (Below.heap_setCell _ _ _ _ (show gp ≠ gs from h.ps))
  refine ⟨h.p1, h.s1, h.q1, h.ps, h.pq, h.sq, by simpa using h.hi1, by rw [hc]; exact h.c0, by rw [hc]; exact h.c1, by rw [hc]; exact h.c2, by rw [hf]; exact h.z2, ?_, own_heap h.que (Below.heap_setCell _ _ _ _ (show gq ≠ gs from fun e => h.sq e.symm))⟩
  rw [← stp_set]
  exact h.row.set i _ (by rw [stp_len]; exact hi')
/-- all steps struck -/
theorem Sr.clear {lo hi gp gs gq n : Nat} {near : Value} {w : World} {f : Int → Int} {q : List Int} (h : Sr lo hi gp gs gq n near w f q) : Sr lo hi gp gs gq n near (w.setCells gs 0 (List.replicate n (.int .i64 0))) (fun _ => 0) q := by
  have hk : Keep gs (gs + 1) w (w.setCells gs 0 (List.replicate n (.int .i64 0))) := Keep.sets (Nat.le_refl _) (Nat.lt_succ_self _) _ _ _
  have hp := h.p1
  have hq := h.q1
  have h1 := h.hi1
  have hps := h.ps
  have hsq := h.sq
  refine ⟨hp, h.s1, hq, h.ps, h.pq, h.sq, Nat.le_trans h1 hk.size, ?_, ?_, ?_, ?_, ?_, own_heap h.que (hk.block gq (by omega) (by omega))⟩
  · rw [hk.cell _ (by omega) (by omega)]; exact h.c0
  · rw [hk.cell _ (by omega) (by omega)]; exact h.c1
  · rw [hk.cell _ (by omega) (by omega)]; exact h.c2
  · rw [hk.frozen _ (by omega) (by omega)]; exact h.z2
  · have hr := Row.sets (List.replicate n (.int .i64 0)) 0 w (stp n f) h.row (by rw [stp_len]; simp)
    have e : (stp n f).take 0 ++ (List.replicate n (Value.int .i64 0) ++ (stp n f).drop (0 + (List.replicate n (Value.int .i64 0)).length)) = stp n (fun _ => 0) := by
      rw [List.drop_of_length_le (by rw [stp_len]; simp), List.take_zero, List.nil_append, List.append_nil]
      symm
      rw [List.eq_replicate_iff]
      refine ⟨stp_len _ _, fun b hb => ?_⟩
      simp only [stp, ints, List.mem_map] at hb
      obtain ⟨_, ⟨_, _, rfl⟩, rfl⟩ := hb
      rfl
    rw [e] at hr
    exact hr
/-- the queue handed on to the struct -/
theorem Sr.push {lo hi gp gs gq n : Nat} {near : Value} {w w1 : World} {f : Int → Int} {q q' : List Int} (h : Sr lo hi gp gs gq n near w f q) (hg : w.grownBy w1 (some gq)) (hown : w1.ownsRow lo 3 1 (.slice (some ⟨gq, 0, none⟩) q'.length n) q'.length (ints q')) :
    Sr lo hi gp gs gq n near (w1.setCell ⟨gp, 2, none⟩ (.slice (some ⟨gq, 0, none⟩) q'.length n)) f q' := by
  have hp := h.p1
  have hq := h.q1
  have h1 := h.hi1
  have hpq := h.pq
  have hk : Keep gq (gq + 1) w w1 := Keep.grown hg (fun k e => by injection e with e; omega)
  have c2' : w1.cell? ⟨gp, 2, none⟩ = some (.slice (some ⟨gq, 0, none⟩) q.length n) := by rw [hk.cell _ (by omega) (by omega)]; exact h.c2
  have hne : ∀ o, o ≠ 2 → (w1.setCell ⟨gp, 2, none⟩ (.slice (some ⟨gq, 0, none⟩) q'.length n)).cell? ⟨gp, o, none⟩ = w1.cell? ⟨gp, o, none⟩ := fun o ho => World.cell?_setCell_other _ _ _ _ (by intro e; injection e with _ e _; exact ho e.symm)
  have hs1 := hk.size
  have hs := h.s1
  have hsq := h.sq
  refine ⟨hp, h.s1, hq, h.ps, h.pq, h.sq, by simp; omega, ?_, ?_, ?_, ?_, ?_, ?_⟩
  · rw [hne 0 (by omega), hk.cell _ (by omega) (by omega)]; exact h.c0
  · rw [hne 1 (by omega), hk.cell _ (by omega) (by omega)]; exact h.c1
  · exact World.cell?_setCell_same _ _ _ c2'
  · have : w1.frozen? ⟨gp, 2, none⟩ = false := by rw [hk.frozen _ (by omega) (by omega)]; exact h.z2
    simpa using this
  · exact (h.row.keep hk (by omega)).keep (lo := gp) (hi := gp + 1) (Keep.set w1 2 _ (Nat.le_refl _) (Nat.lt_succ_self _)) (by have := h.ps; omega)
  · exact own_heap hown (Below.heap_setCell _ _ _ _ (show gq ≠ gp from fun e => h.pq e.symm))

end Go.Proofs.Ytndcbhgdlaemaaa
