/-
  What the laws of layer 3 ask of the program (RatioOk).
-/
import Derived.Test.YtnddfngdlmdmhaaRat3
import Derived.Test.YtnddfngdlmdmhaaProg
import Derived.WalkKit
import Derived.WalkSpells
import Derived.WalkLawsBesides
import Derived.Lib.Hide
import Derived.Deep.DeepCutAuto
namespace Go.Proofs.Ytnddfngdlmdmhaa
open Go.RowKit

/-- a ratio as a value; a result -/
abbrev rv (r : Rt.R) : Value := .agg #[.int .i64 r.n, .int .i64 r.d]
abbrev rok (x : Rt.R × Int) : Value := .tuple #[.agg #[.int .i64 x.1.n, .int .i64 x.1.d], .int .i64 x.2]
def I64 (n : Int) : Prop := -9223372036854775808 ≤ n ∧ n ≤ 9223372036854775807
def In (a : Rt.R) : Prop := I64 a.n ∧ I64 a.d

/-- THE PROGRAM's CONTRACTS. -/
structure RatioOk : Prop where
  right : ∀ (a : Rt.R) (w : World), In a → Calls Try.prog 11 #[rv a] w fun e w' => e = .returned (.bool (Rt.right a)) ∧ Below w.heap.size w w'
  make : ∀ (p q : Int) (w : World), I64 p → I64 q → Calls Try.prog 9 #[.int .i64 p, .int .i64 q] w fun e w' => e = .returned (rok (Rt.make p q)) ∧ Below w.heap.size w w'
  add : ∀ (a b : Rt.R) (w : World), In a → In b → Calls Try.prog 13 #[rv a, rv b] w fun e w' => e = .returned (rok (Rt.add a b)) ∧ Below w.heap.size w w'
  sub : ∀ (a b : Rt.R) (w : World), In a → In b → Calls Try.prog 15 #[rv a, rv b] w fun e w' => e = .returned (rok (Rt.sub a b)) ∧ Below w.heap.size w w'
  mul : ∀ (a b : Rt.R) (w : World), In a → In b → Calls Try.prog 17 #[rv a, rv b] w fun e w' => e = .returned (rok (Rt.mul a b)) ∧ Below w.heap.size w w'
  div : ∀ (a b : Rt.R) (w : World), In a → In b → Calls Try.prog 19 #[rv a, rv b] w fun e w' => e = .returned (rok (Rt.div a b)) ∧ Below w.heap.size w w'
  cmp : ∀ (a b : Rt.R) (w : World), In a → In b → Calls Try.prog 21 #[rv a, rv b] w fun e w' => e = .returned (.int .i64 (Rt.cmp a b)) ∧ Below w.heap.size w w'
  floor : ∀ (a : Rt.R) (w : World), In a → Calls Try.prog 23 #[rv a] w fun e w' => e = .returned (.int .i64 (Rt.floor a)) ∧ Below w.heap.size w w'
  ceil : ∀ (a : Rt.R) (w : World), In a → Calls Try.prog 25 #[rv a] w fun e w' => e = .returned (.int .i64 (Rt.ceil a)) ∧ Below w.heap.size w w'
  nearest : ∀ (a : Rt.R) (w : World), In a → Calls Try.prog 27 #[rv a] w fun e w' => e = .returned (.int .i64 (Rt.nearest a)) ∧ Below w.heap.size w w'

theorem chain {W a b : World} (h : Below W.heap.size W a) (k : Below a.heap.size a b) : Below W.heap.size W b := h.trans (k.mono h.size)

/-- a ratio in a block -/
def At (w : World) (b : Nat) (r : Rt.R) : Prop := b < w.heap.size ∧ w.cell? ⟨b, 0, none⟩ = some (.int .i64 r.n) ∧ w.cell? ⟨b, 1, none⟩ = some (.int .i64 r.d)
theorem At.below {w w' : World} {b : Nat} {r : Rt.R} (h : At w b r) (hb : Below w.heap.size w w') : At w' b r := by
  obtain ⟨h0, h1, h2⟩ := h
  refine ⟨by have := hb.size; omega, ?_, ?_⟩
  · rw [hb.cell (p := ⟨b, 0, none⟩) h0]; exact h1
  · rw [hb.cell (p := ⟨b, 1, none⟩) h0]; exact h2
theorem At.alloc {w : World} {b : Nat} {r : Rt.R} (h : At w b r) (o : Obj) : At (w.alloc o) b r := h.below ((Below.refl _ _).alloc (Nat.le_refl _) _)
theorem At.drew {w : World} {b : Nat} {r : Rt.R} (h : At w b r) : At w.drew b r := h.below (Below.drew (Below.refl _ _))
theorem At.new (w : World) (r : Rt.R) (T : TypeId) (n : Nat) (hn : n = w.heap.size) : At (w.alloc (.cells #[.int .i64 r.n, .int .i64 r.d] T)) n r := by
  subst hn
  refine ⟨by simp, ?_, ?_⟩ <;> rw [World.cell?_alloc_new] <;> rfl

end Go.Proofs.Ytnddfngdlmdmhaa
