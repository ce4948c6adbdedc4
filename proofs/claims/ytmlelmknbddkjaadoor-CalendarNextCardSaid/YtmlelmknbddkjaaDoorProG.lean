/-
  The program's officesOf: the two loops over the lists.
-/
import Derived.Test.YtmlelmknbddkjaaDoorProF
namespace Go.Proofs.YtmlelmknbddkjaaDoor
open Go.RowKit

theorem offC_congr {f g : Nat → Bool} {s : Value} (h : ∀ i, i < 391 → f i = g i) : offC f s = offC g s :=
  offC_ext (offC_size _ _) (fun i hi => by rw [offC_get _ _ _ hi, h i hi]) (offC_last _ _)
theorem Ofc.congr {w : World} {b : Nat} {f g : Nat → Bool} {s : Value} (h : Ofc w b f s) (e : ∀ i, i < 391 → f i = g i) : Ofc w b g s := by
  unfold Ofc at h ⊢
  rw [← offC_congr e]
  exact h

/-- the world while officesOf fills its offices -/
structure OS (w : World) (v4 v5 : Value) (f : Nat → Bool) (W : World) : Prop where
  below : Below w.heap.size w W
  size : W.heap.size = w.heap.size + 1 + 1 + 1
  c4 : W.cell? ⟨w.heap.size, 4, none⟩ = some v4
  c5 : W.cell? ⟨w.heap.size, 5, none⟩ = some v5
  res : Ofc W (w.heap.size + 1) (fun _ => false) (.slice none 0 0)
  o : Ofc W (w.heap.size + 1 + 1) f (.slice none 0 0)
theorem OS.set {w : World} {v4 v5 : Value} {f : Nat → Bool} {W : World} (h : OS w v4 v5 f W) (p : Nat) (hp : p < 391) :
    OS w v4 v5 (upd f p) (W.setCell ⟨w.heap.size + 1 + 1, p, none⟩ (.bool true)) := by
  have hB : Below (w.heap.size + 1 + 1) W (W.setCell ⟨w.heap.size + 1 + 1, p, none⟩ (.bool true)) := (Below.refl _ W).setCell (p := ⟨w.heap.size + 1 + 1, p, none⟩) (Nat.le_refl _) _
  have hs := h.size
  refine ⟨h.below.trans (hB.mono (by omega)), by simp [hs], ?_, ?_, h.res.below hB (by omega), h.o.set p hp⟩
  · rw [hB.cell (p := ⟨w.heap.size, 4, none⟩) (by show w.heap.size < _; omega)]; exact h.c4
  · rw [hB.cell (p := ⟨w.heap.size, 5, none⟩) (by show w.heap.size < _; omega)]; exact h.c5
theorem OS.congr {w : World} {v4 v5 : Value} {f g : Nat → Bool} {W : World} (h : OS w v4 v5 f W) (e : ∀ i, i < 391 → f i = g i) : OS w v4 v5 g W :=
  ⟨h.below, h.size, h.c4, h.c5, h.res, h.o.congr e⟩
theorem OS.start {Z : Array Value} (hZ : offC (fun _ => false) (.slice none 0 0) = Z) (w : World) (nm : ByteArray) (o c : Int) (v3 v4 v5 : Value) :
    OS w v4 v5 (fun _ => false) (((w.alloc (.cells #[.string nm, .int .i64 o, .int .i64 c, v3, v4, v5] 24)).alloc (.cells Z 53)).alloc (.cells Z 53)) := by
  subst hZ
  have b0 : Below w.heap.size w (w.alloc (.cells #[.string nm, .int .i64 o, .int .i64 c, v3, v4, v5] 24)) := (Below.refl _ _).alloc (Nat.le_refl _) _
  have b1 : Below (w.alloc (.cells #[.string nm, .int .i64 o, .int .i64 c, v3, v4, v5] 24)).heap.size (w.alloc (.cells #[.string nm, .int .i64 o, .int .i64 c, v3, v4, v5] 24)) (((w.alloc (.cells #[.string nm, .int .i64 o, .int .i64 c, v3, v4, v5] 24)).alloc (.cells (offC (fun _ => false) (.slice none 0 0)) 53)).alloc (.cells (offC (fun _ => false) (.slice none 0 0)) 53)) :=
    ((Below.refl _ _).alloc (Nat.le_refl _) _).alloc (by simp) _
  refine ⟨chain b0 b1, by simp, ?_, ?_, ?_, ?_⟩
  · rw [b1.cell (p := ⟨w.heap.size, 4, none⟩) (by simp), World.cell?_alloc_new]; rfl
  · rw [b1.cell (p := ⟨w.heap.size, 5, none⟩) (by simp), World.cell?_alloc_new]; rfl
  · have := heap_alloc2_old (w.alloc (.cells #[.string nm, .int .i64 o, .int .i64 c, v3, v4, v5] 24)) (.cells (offC (fun _ => false) (.slice none 0 0)) 53) (.cells (offC (fun _ => false) (.slice none 0 0)) 53)
    rw [World.size_alloc] at this
    exact this
  · have := heap_alloc2_new (w.alloc (.cells #[.string nm, .int .i64 o, .int .i64 c, v3, v4, v5] 24)) (.cells (offC (fun _ => false) (.slice none 0 0)) 53) (.cells (offC (fun _ => false) (.slice none 0 0)) 53)
    rw [World.size_alloc] at this
    exact this

def ORel1 (w : World) (v4 v5 : Value) (C : Lists) (i : Value) (W : World) : Prop := ∃ k : Nat, k ≤ C.r.length ∧ i = .int .i64 (k : Int) ∧ OS w v4 v5 (restF (C.r.take k)) W
/-- what is filled when so many feasts have been seen -/
def feastF (C : Lists) (l : List Int) (i : Nat) : Bool := if i < 7 then hasB C.r (i : Int) else hasB l (100 * (((i - 7) / 32 : Nat) : Int) + 100 + (((i - 7) % 32 : Nat) : Int))
def ORel2 (w : World) (v4 v5 : Value) (C : Lists) (i : Value) (W : World) : Prop := ∃ k : Nat, k ≤ C.f.length ∧ i = .int .i64 (k : Int) ∧ OS w v4 v5 (feastF C (C.f.take k)) W

theorem hasB_snoc (l : List Int) (x y : Int) : hasB (l ++ [x]) y = (hasB l y || y == x) := by
  rw [Bool.eq_iff_iff, hasB_iff, Bool.or_eq_true, hasB_iff, beq_iff_eq]
  simp
theorem take_snoc {l : List Int} {k : Nat} {x : Int} (h : l[k]? = some x) : l.take (k + 1) = l.take k ++ [x] := by
  rw [List.take_add_one, h]; rfl
theorem rest_in {l : List Int} {k p : Nat} (h : l[k]? = some (p : Int)) (hp : p < 7) (i : Nat) : upd (restF (l.take k)) p i = restF (l.take (k + 1)) i := by
  rw [take_snoc h]
  unfold upd restF
  rw [hasB_snoc]
  by_cases e : i = p
  · subst e; simp [hp]
  · rw [if_neg e]
    have : ((i : Int) == (p : Int)) = false := beq_eq_false_iff_ne.2 (by omega)
    rw [this, Bool.or_false]
theorem rest_out {l : List Int} {k : Nat} {y : Int} (h : l[k]? = some y) (hy : y < 0 ∨ 7 ≤ y) (i : Nat) : restF (l.take k) i = restF (l.take (k + 1)) i := by
  rw [take_snoc h]
  unfold restF
  rw [hasB_snoc]
  by_cases c : i < 7
  · have : ((i : Int) == y) = false := beq_eq_false_iff_ne.2 (by omega)
    rw [this, Bool.or_false]
  · simp [c]
theorem rest_feast (C : Lists) (i : Nat) : restF (C.r.take C.r.length) i = feastF C (C.f.take 0) i := by
  rw [List.take_length]
  unfold restF feastF
  by_cases c : i < 7 <;> simp [c, hasB]
theorem feast_in {C : Lists} {k m d : Nat} (h : C.f[k]? = some (100 * (m : Int) + 100 + (d : Int))) (hm : m < 12) (hd : d < 32) (i : Nat) : upd (feastF C (C.f.take k)) (7 + m * 32 + d) i = feastF C (C.f.take (k + 1)) i := by
  rw [take_snoc h]
  unfold upd feastF
  by_cases c : i < 7
  · rw [if_pos c, if_neg (by omega), if_pos c]
  · rw [if_neg c, if_neg c, hasB_snoc]
    by_cases e : i = 7 + m * 32 + d
    · rw [if_pos e]
      have : (100 * (((i - 7) / 32 : Nat) : Int) + 100 + (((i - 7) % 32 : Nat) : Int) == 100 * (m : Int) + 100 + (d : Int)) = true := by rw [beq_iff_eq]; omega
      rw [this, Bool.or_true]
    · rw [if_neg e]
      have : (100 * (((i - 7) / 32 : Nat) : Int) + 100 + (((i - 7) % 32 : Nat) : Int) == 100 * (m : Int) + 100 + (d : Int)) = false := beq_eq_false_iff_ne.2 (by omega)
      rw [this, Bool.or_false]
theorem feast_out {C : Lists} {k : Nat} {y : Int} (h : C.f[k]? = some y) (hy : y < 100 ∨ 1300 ≤ y ∨ 32 ≤ y % 100) (i : Nat) (hi : i < 391) : feastF C (C.f.take k) i = feastF C (C.f.take (k + 1)) i := by
  rw [take_snoc h]
  unfold feastF
  by_cases c : i < 7
  · rw [if_pos c, if_pos c]
  · rw [if_neg c, if_neg c, hasB_snoc]
    have : (100 * (((i - 7) / 32 : Nat) : Int) + 100 + (((i - 7) % 32 : Nat) : Int) == y) = false := beq_eq_false_iff_ne.2 (by omega)
    rw [this, Bool.or_false]

end Go.Proofs.YtmlelmknbddkjaaDoor
