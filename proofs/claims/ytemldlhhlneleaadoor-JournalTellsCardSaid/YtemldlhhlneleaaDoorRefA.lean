/-
  Disks in memory; the reference's zeros, Check and up.
-/
import Derived.Test.YtemldlhhlneleaaDoorDsk
import Derived.WalkKit
import Derived.WalkSpells
import Derived.WalkLawsBesides
import Derived.Lib.Hide
import Derived.IntWalk
import Derived.OwnWalk
import Derived.Deep.DeepCutAuto
import Derived.RegionTactic
import Derived.Deep.QuietTactic
import Derived.BigQuiet
import Derived.Laws.OwnMore
namespace Go.Proofs.YtemldlhhlneleaaDoor
open Go.RowKit Dk

def I64 (n : Int) : Prop := -9223372036854775808 ≤ n ∧ n ≤ 9223372036854775807
theorem below_drewN {B : Nat} {a w : World} (h : Below B a w) (n : Nat) : Below B a (w.drewN n) := ⟨h.os, h.tape, h.output, h.size, h.block⟩
theorem chain {W a b : World} (h : Below W.heap.size W a) (k : Below a.heap.size a b) : Below W.heap.size W b := h.trans (k.mono h.size)
theorem Below.new1 {w : World} (o : Obj) : Below w.heap.size w (w.alloc o) := (Below.refl _ _).alloc (Nat.le_refl _) _
/-- a slice value reads as a list of values of one cell -/
def SAt (w : World) (v : Value) (l : List Value) : Prop := ∃ a cap, v = .slice a l.length cap ∧ l.length ≤ cap ∧ ∀ (j : Nat) (x : Value), l[j]? = some x → ∃ b off, a = some ⟨b, off, none⟩ ∧ b < w.heap.size ∧ w.cell? ⟨b, off + j, none⟩ = some x
theorem SAt.below {w w' : World} {v : Value} {l : List Value} {B : Nat} (h : SAt w v l) (hb : Below B w w') (hB : w.heap.size ≤ B) : SAt w' v l := by
  obtain ⟨a, cap, rfl, hcap, h⟩ := h
  refine ⟨a, cap, rfl, hcap, fun j t ht => ?_⟩
  obtain ⟨b, off, e, hlt, h0⟩ := h j t ht
  exact ⟨b, off, e, by have := hb.size; omega, by rw [hb.cell (p := ⟨b, off + j, none⟩) (by show b < B; omega)]; exact h0⟩
theorem SAt.next {w w' : World} {v : Value} {l : List Value} (h : SAt w v l) (hb : Below w.heap.size w w') : SAt w' v l := h.below hb (Nat.le_refl _)
theorem SAt.nil (w : World) : SAt w (.slice none 0 0) [] := ⟨none, 0, rfl, Nat.le_refl _, fun j x h => by simp at h⟩
/-- a slice value reads as a list of writes -/
def WAt (w : World) (v : Value) (l : List (Int × B)) : Prop := ∃ a cap, v = .slice a l.length cap ∧ l.length ≤ cap ∧ ∀ (j : Nat) (p : Int × B), l[j]? = some p → ∃ b off, a = some ⟨b, off, none⟩ ∧ b < w.heap.size ∧
  w.cell? ⟨b, off + j * 2, none⟩ = some (.int .i64 p.1) ∧ w.cell? ⟨b, off + j * 2 + 1, none⟩ = some (.string p.2)
theorem WAt.below {w w' : World} {v : Value} {l : List (Int × B)} {B : Nat} (h : WAt w v l) (hb : Below B w w') (hB : w.heap.size ≤ B) : WAt w' v l := by
  obtain ⟨a, cap, rfl, hcap, h⟩ := h
  refine ⟨a, cap, rfl, hcap, fun j t ht => ?_⟩
  obtain ⟨b, off, e, hlt, h0, h1⟩ := h j t ht
  have hc : ∀ o, w'.cell? ⟨b, o, none⟩ = w.cell? ⟨b, o, none⟩ := fun o => hb.cell (p := ⟨b, o, none⟩) (by show b < B; omega)
  refine ⟨b, off, e, by have := hb.size; omega, ?_, ?_⟩ <;> rw [hc] <;> assumption
theorem WAt.next {w w' : World} {v : Value} {l : List (Int × B)} (h : WAt w v l) (hb : Below w.heap.size w w') : WAt w' v l := h.below hb (Nat.le_refl _)
theorem WAt.nil (w : World) : WAt w (.slice none 0 0) [] := ⟨none, 0, rfl, Nat.le_refl _, fun j x h => by simp at h⟩
abbrev strs (l : List B) : List Value := l.map Value.string
theorem strs_get {l : List B} {k : Nat} {x : B} (h : l[k]? = some x) : (strs l)[k]? = some (.string x) := by rw [List.getElem?_map, h]; rfl
/-- a struct value reads as a disk -/
def DAt (w : World) (v : Value) (d : D) : Prop := ∃ sv pv, v = .agg #[sv, pv, .int .i64 d.left, .bool d.down] ∧ SAt w sv (strs d.secs) ∧ WAt w pv d.pend
theorem DAt.next {w w' : World} {v : Value} {d : D} (h : DAt w v d) (hb : Below w.heap.size w w') : DAt w' v d := by
  obtain ⟨sv, pv, e, h1, h2⟩ := h
  exact ⟨sv, pv, e, h1.next hb, h2.next hb⟩
theorem DAt.zero (w : World) : DAt w (.agg #[.slice none 0 0, .slice none 0 0, .int .i64 0, .bool false]) D0 := ⟨_, _, rfl, SAt.nil w, WAt.nil w⟩
/-- what may be asked of a disk that comes in -/
structure Fit (d : D) : Prop where
  secs : d.secs.length ≤ 1099511627776
  pend : d.pend.length ≤ 1099511627776
  left : I64 d.left
  at_ : ∀ p ∈ d.pend, I64 p.1
  s1 : ∀ s ∈ d.secs, s.size ≤ 9223372036854775807
  s2 : ∀ p ∈ d.pend, p.2.size ≤ 9223372036854775807
theorem DAt.form {w : World} {v : Value} {d : D} (h : DAt w v d) : ∃ a c b c2, v = .agg #[.slice a d.secs.length c, .slice b d.pend.length c2, .int .i64 d.left, .bool d.down] ∧ d.secs.length ≤ c ∧ d.pend.length ≤ c2 ∧
    Hid (∀ (j : Nat) (x : B), d.secs[j]? = some x → ∃ g off, a = some ⟨g, off, none⟩ ∧ g < w.heap.size ∧ w.cell? ⟨g, off + j, none⟩ = some (.string x)) ∧
    Hid (∀ (j : Nat) (p : Int × B), d.pend[j]? = some p → ∃ g off, b = some ⟨g, off, none⟩ ∧ g < w.heap.size ∧ w.cell? ⟨g, off + j * 2, none⟩ = some (.int .i64 p.1) ∧ w.cell? ⟨g, off + j * 2 + 1, none⟩ = some (.string p.2)) := by
  obtain ⟨sv, pv, rfl, ⟨a, c, rfl, h1, h2⟩, ⟨b, c2, rfl, h3, h4⟩⟩ := h
  rw [List.length_map] at h1
  exact ⟨a, c, b, c2, by rw [List.length_map], h1, h3, fun j x hx => h2 j _ (strs_get hx), h4⟩

def ZRel (n : Nat) (w : World) (s i : Value) (wr : World) : Prop := ∃ k : Nat, k ≤ n ∧ i = .int .i64 (k : Int) ∧ s = .string (zb k) ∧ w = wr
theorem zeros_x (n : Nat) (hn : n ≤ 1000) (w : World) :
    Calls Tryd.prog 34 #[.int .i64 (n : Int)] w fun r w' => r = .returned (.string (zb n)) ∧ w = w' := by
  go_enter Tryd.func34, Tryd.ntmps34
  go_wp2_with fail
  go_loopw [3, 4] (fun s i wr => ZRel n w s i wr) (fun _ i _ => n - (intOf i).toNat)
  case atStart => exact ⟨0, Nat.zero_le _, rfl, rfl, rfl⟩
  case round =>
    obtain ⟨k, hk, rfl, rfl, rfl⟩ := hrel
    have k0 : (0 : Int) ≤ (k : Int) := by omega
    by_cases c : k < n
    case neg =>
      obtain rfl : k = n := by omega
      have c0 : ¬ (k : Int) < (k : Int) := by omega
      clear c
      go_wp2_with fail
      go_ret
      exact ⟨rfl, rfl⟩
    case pos =>
      have c0 : (k : Int) < (n : Int) := by omega
      have sz : (zb k).size ≤ 1000 := by rw [zb_size]; omega
      go_wp2_with fail
      go_roundw
      case rel => exact ⟨k + 1, by omega, by congr 1, rfl, rfl⟩
      case measure => simp [intOf]; omega

end Go.Proofs.YtemldlhhlneleaaDoor
