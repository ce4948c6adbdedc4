/-
  What the laws of layer 5 ask of the program (MonOk); the examples (sane); split.
-/
import Derived.Test.YtdijhpcnlbjdaaaRefD
namespace Go.Proofs.Ytdijhpcnlbjdaaa
open Go.RowKit Mon

def okI (r : R) : Prop := I64 r.f ∧ I64 r.t ∧ I64 r.n ∧ I64 r.d ∧ I64 r.s
/-- THE PROGRAM's CONTRACTS. -/
structure MonOk : Prop where
  int : ∀ (s p f t b : Int) (w : World), I64 s → I64 p → I64 f → I64 t → I64 b → Calls Try.prog 9 #[.int .i64 s, .int .i64 p, .int .i64 f, .int .i64 t, .int .i64 b] w fun e w' => e = .returned (pv (interest s p f t b)) ∧ Below w.heap.size w w'
  dis : ∀ (s p n : Int) (w : World), I64 s → I64 p → I64 n → Calls Try.prog 11 #[.int .i64 s, .int .i64 p, .int .i64 n] w fun e w' => e = .returned (pv (discount s p n)) ∧ Below w.heap.size w w'
  conv : ∀ (v : Value) (l : List R) (s f t on : Int) (w : World), RAt w v l → l.length ≤ 1099511627776 → (∀ r ∈ l, okI r) → I64 s → I64 f → I64 t → I64 on →
    Calls Try.prog 13 #[v, .int .i64 s, .int .i64 f, .int .i64 t, .int .i64 on] w fun e w' => e = .returned (pv (Mon.conv l s f t on)) ∧ Below w.heap.size w w'

theorem ex_a : interest 1000 60 0 90 360 = (15, 0) := by decide +kernel
theorem ex_b : interest 1000 60 0 90 365 = (14, 0) := by decide +kernel
theorem ex_c : discount 1001 60 90 = (16, 0) := by decide +kernel
theorem ex_x : Mon.conv [⟨0, 1, 3, 2, 5⟩] 100 0 1 5 = (150, 0) := by decide +kernel
theorem ex_y : Mon.conv [⟨0, 1, 3, 2, 5⟩] 100 1 0 5 = (66, 0) := by decide +kernel
theorem ex_z : Mon.conv [⟨0, 1, 3, 2, 5⟩] 100 0 1 4 = (0, 4) := by decide +kernel

theorem small_I64 {n : Int} (h1 : -2199023255552 ≤ n) (h2 : n ≤ 2199023255552) : I64 n := by unfold I64; omega
theorem Below.new {w : World} (o : Obj) : Below w.heap.size w (w.alloc o) := (Below.refl _ _).alloc (Nat.le_refl _) _
abbrev rateC (r : R) : List Value := [.int .i64 r.f, .int .i64 r.t, .int .i64 r.n, .int .i64 r.d, .int .i64 r.s]
/-- one rate in a new block -/
theorem RAt.one (w : World) (r : R) (T : TypeId) : RAt (w.alloc (.cells #[.int .i64 r.f, .int .i64 r.t, .int .i64 r.n, .int .i64 r.d, .int .i64 r.s] T)) (.slice (some ⟨w.heap.size, 0, none⟩) 1 1) [r] := by
  refine ⟨_, 1, rfl, Nat.le_refl _, fun j x hx => ?_⟩
  cases j with
  | succ j => simp at hx
  | zero =>
    simp only [List.getElem?_cons_zero, Option.some.injEq] at hx
    subst hx
    refine ⟨w.heap.size, 0, rfl, by simp, ?_, ?_, ?_, ?_, ?_⟩ <;> rw [World.cell?_alloc_new] <;> rfl

set_option maxHeartbeats 1600000 in
set_option maxRecDepth 100000 in
theorem sane_x (h : MonOk) (w : World) : Calls Try.prog 8 #[] w fun e w' => e = .returned (.bool true) ∧ Below w.heap.size w w' := by
  go_enter Try.func8, Try.ntmps8
  go_wp2_with fail
  refine (h.int 1000 60 0 90 360 _ (small_I64 (by omega) (by omega)) (small_I64 (by omega) (by omega)) (small_I64 (by omega) (by omega)) (small_I64 (by omega) (by omega)) (small_I64 (by omega) (by omega))).mono ?_
  rintro e w1 ⟨rfl, b1⟩
  rw [ex_a]
  simp only [pv]
  have c1 := b1
  clear b1
  go_wp2_with fail
  refine (h.int 1000 60 0 90 365 _ (small_I64 (by omega) (by omega)) (small_I64 (by omega) (by omega)) (small_I64 (by omega) (by omega)) (small_I64 (by omega) (by omega)) (small_I64 (by omega) (by omega))).mono ?_
  rintro e w2 ⟨rfl, b1⟩
  rw [ex_b]
  simp only [pv]
  have c2 := chain c1 b1
  clear b1 c1
  go_wp2_with fail
  refine (h.dis 1001 60 90 _ (small_I64 (by omega) (by omega)) (small_I64 (by omega) (by omega)) (small_I64 (by omega) (by omega))).mono ?_
  rintro e w3 ⟨rfl, b1⟩
  rw [ex_c]
  simp only [pv]
  have c3 := chain c2 b1
  clear b1 c2
  have ok : ∀ r ∈ ([⟨0, 1, 3, 2, 5⟩] : List R), okI r := by simp [okI, I64]
  have H : RAt (w3.alloc (.cells #[.int .i64 0, .int .i64 1, .int .i64 3, .int .i64 2, .int .i64 5] 36)) (.slice (some ⟨w3.heap.size, 0, none⟩) 1 1) [⟨0, 1, 3, 2, 5⟩] := RAt.one w3 ⟨0, 1, 3, 2, 5⟩ _
  have c4 := chain c3 (Below.new (w := w3) (.cells #[.int .i64 0, .int .i64 1, .int .i64 3, .int .i64 2, .int .i64 5] 36))
  clear c3
  go_wp2_with fail
  refine (h.conv _ [⟨0, 1, 3, 2, 5⟩] 100 0 1 5 _ H (by decide) ok (small_I64 (by omega) (by omega)) (small_I64 (by omega) (by omega)) (small_I64 (by omega) (by omega)) (small_I64 (by omega) (by omega))).mono ?_
  rintro e w4 ⟨rfl, b1⟩
  rw [ex_x]
  simp only [pv]
  have c5 := chain c4 b1
  have H2 := H.below b1 (Nat.le_refl _)
  clear H b1 c4
  have H := H2
  clear H2
  go_wp2_with fail
  refine (h.conv _ [⟨0, 1, 3, 2, 5⟩] 100 1 0 5 _ H (by decide) ok (small_I64 (by omega) (by omega)) (small_I64 (by omega) (by omega)) (small_I64 (by omega) (by omega)) (small_I64 (by omega) (by omega))).mono ?_
  rintro e w5 ⟨rfl, b1⟩
  rw [ex_y]
  simp only [pv]
  have c6 := chain c5 b1
  have H2 := H.below b1 (Nat.le_refl _)
  clear H b1 c5
  have H := H2
  clear H2
  go_wp2_with fail
  refine (h.conv _ [⟨0, 1, 3, 2, 5⟩] 100 0 1 4 _ H (by decide) ok (small_I64 (by omega) (by omega)) (small_I64 (by omega) (by omega)) (small_I64 (by omega) (by omega)) (small_I64 (by omega) (by omega))).mono ?_
  rintro e w6 ⟨rfl, b1⟩
  rw [ex_z]
  simp only [pv]
  have c7 := chain c6 b1
  have H2 := H.below b1 (Nat.le_refl _)
  clear H b1 c6
  have H := H2
  clear H2
  clear H ok
  go_wp2_with fail
  go_ret
  exact ⟨by try rfl, c7⟩

theorem split_x (a b m off : Int) (w : World) (h1 : 0 ≤ a ∧ a ≤ 1099511627776) (h2 : 0 ≤ b ∧ b ≤ 1099511627776) (h3 : 0 ≤ m ∧ m ≤ 1099511627776) (h4 : off = 0 ∨ off = 1) (h5 : m - 1 + off ≤ a + b) (h6 : a + b ≤ m + off) :
    Calls Try.prog 15 #[.int .i64 a, .int .i64 b, .int .i64 m, .int .i64 off] w fun e w' => e = .returned (.bool true) ∧ w = w' := by
  obtain ⟨a0, a1⟩ := h1
  obtain ⟨b0, b1⟩ := h2
  obtain ⟨m0, m1⟩ := h3
  rcases h4 with rfl | rfl
  · have h7 : a + b ≤ m := by omega
    clear h6
    go_enter Try.func15, Try.ntmps15
    go_wp2_with fail
    go_ret
    exact ⟨by first | rfl | (show Ending.returned (Value.bool (decide (a + b ≤ m))) = _; rw [decide_eq_true h7]), rfl⟩
  · have h7 : a + b ≤ m + 1 := by omega
    clear h6
    go_enter Try.func15, Try.ntmps15
    go_wp2_with fail
    go_ret
    exact ⟨by first | rfl | (show Ending.returned (Value.bool (decide (a + b ≤ m + 1))) = _; rw [decide_eq_true h7]), rfl⟩

end Go.Proofs.Ytdijhpcnlbjdaaa
