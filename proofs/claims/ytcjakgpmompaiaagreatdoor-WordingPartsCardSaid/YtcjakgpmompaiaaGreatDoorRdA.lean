/-
  The program's reader in memory: what the world holds (Ev), the reader's box (PB); take, number, name.
-/
import Derived.Test.YtcjakgpmompaiaaGreatDoorWd
import Derived.Test.YtcjakgpmompaiaaGreatDoorShA
import Derived.Test.YtcjakgpmompaiaaGreatDoorCaG
import Derived.Test.YtcjakgpmompaiaaGreatDoorProI
import Derived.Test.YtcjakgpmompaiaaGreatDoorRefI
import Derived.Test.YtcjakgpmompaiaaGreatDoorHand2
import Derived.Lib.AtoiErrMem
import Derived.Laws.RangeAny
namespace Go.Proofs.YtcjakgpmompaiaaGreatDoor
open Go.RowKit Rl Wd

theorem gPow : Tryz.prog.globalNamed "internal/strconv.uint64pow10" = some 2 := by kernel_rfl
def powC : Array Value := (Lib.pow10Tab.map fun z => Value.int .u64 z).toArray
/-- the library's table of powers of ten, as its initialiser lays it -/
def Tb (w : World) : Prop := ∃ t fr, w.heap[2]? = some (.cells powC t fr)
theorem Tb.pos {w : World} (h : Tb w) : 2 < w.heap.size := by
  obtain ⟨t, fr, h⟩ := h
  exact (Array.getElem?_eq_some_iff.1 h).1
theorem Tb.next {W w' : World} (h : Tb W) (hb : Below W.heap.size W w') : Tb w' := by
  have hp := h.pos
  obtain ⟨t, fr, h⟩ := h
  exact ⟨t, fr, by rw [hb.block _ hp]; exact h⟩
theorem Tb.tab {w : World} (h : Tb w) : Lib.TabIs Tryz.prog w "internal/strconv.uint64pow10" .u64 Lib.pow10Tab := by
  obtain ⟨t, fr, h⟩ := h
  show w.var? Tryz.prog "internal/strconv.uint64pow10" = some powC
  unfold World.var?
  rw [gPow]
  simp only [Option.bind_some]
  rw [h]
theorem Tb.of {w : World} (h : Lib.TabIs Tryz.prog w "internal/strconv.uint64pow10" .u64 Lib.pow10Tab) : Tb w := by
  have h2 : w.var? Tryz.prog "internal/strconv.uint64pow10" = some powC := h
  unfold World.var? at h2
  rw [gPow] at h2
  simp only [Option.bind_some] at h2
  split at h2
  · rename_i cs t fr hg
    obtain rfl := Option.some.inj h2
    exact ⟨t, fr, hg⟩
  · cases h2

/-- an error variable: nil or an error -/
def ErrV (w : World) (g : Nat) : Prop := ∃ v, w.cell? ⟨g, 0, none⟩ = some v ∧ (v = .nilIface ∨ ∃ t p, v = .iface t p)
/-- what the world holds before the program runs -/
structure Ev (w : World) : Prop where
  bf : Ca.Bf w
  tb : Tb w
  mx : ∃ m, w.cell? ⟨1, 0, none⟩ = some (.int .i64 m)
  es : ErrV w 3
  er : ErrV w 4
theorem Ev.next {w w' : World} (h : Ev w) (hb : Below w.heap.size w w') : Ev w' := by
  obtain ⟨m, hm⟩ := h.mx
  obtain ⟨v, hv, hv2⟩ := h.es
  obtain ⟨u, hu, hu2⟩ := h.er
  exact ⟨Ca.bf_of h.bf hb, h.tb.next hb, ⟨m, cell_up hb hm⟩, ⟨v, cell_up hb hv, hv2⟩, ⟨u, cell_up hb hu, hu2⟩⟩

/-- the reader's box: eight values of the realm, and the rest of the text -/
def PB (w : World) (g : Nat) (V : List Value) (s : B) : Prop := V.length = 8 ∧ s.size ≤ 100000 ∧ w.heap[g]? = some (.cells (V ++ [Value.string s]).toArray 87 (0, 0))
theorem PB.lt {w : World} {g : Nat} {V : List Value} {s : B} (h : PB w g V s) : g < w.heap.size := (Array.getElem?_eq_some_iff.1 h.2.2).1
theorem PB.cell {w : World} {g : Nat} {V : List Value} {s : B} (h : PB w g V s) : w.cell? ⟨g, 8, none⟩ = some (.string s) := by
  unfold World.cell?
  rw [h.2.2]
  simp [h.1]
theorem PB.at {w : World} {g : Nat} {V : List Value} {s : B} (h : PB w g V s) {i : Nat} {v : Value} (hv : V[i]? = some v) : w.cell? ⟨g, i, none⟩ = some v := by
  unfold World.cell?
  rw [h.2.2]
  obtain ⟨hi, e⟩ := List.getElem?_eq_some_iff.1 hv
  simp [List.getElem?_append_left hi, hv]
theorem PB.free {w : World} {g : Nat} {V : List Value} {s : B} (h : PB w g V s) (i : Nat) : w.frozen? ⟨g, i, none⟩ = false := by
  unfold World.frozen?
  rw [h.2.2]
  simp
theorem PB.set {w : World} {g : Nat} {V : List Value} {s : B} (h : PB w g V s) (t : B) (ht : t.size ≤ 100000) : PB (w.setCell ⟨g, 8, none⟩ (.string t)) g V t := by
  refine ⟨h.1, ht, ?_⟩
  have hlt := h.lt
  have e := h.2.2
  unfold World.setCell
  rw [Array.getElem?_modify]
  simp [e, h.1]
theorem PB.below {w w' : World} {g n : Nat} {V : List Value} {s : B} (h : PB w g V s) (hb : Below n w w') (hg : g < n) : PB w' g V s := ⟨h.1, h.2.1, by rw [hb.block _ hg]; exact h.2.2⟩
theorem PB.next {w w' : World} {g : Nat} {V : List Value} {s : B} (h : PB w g V s) (hb : Below w.heap.size w w') : PB w' g V s := h.below hb h.lt
theorem tk_size (s x : L8) : (tk s x).length ≤ s.length := by
  unfold tk Lib.trimPrefix
  split
  · rw [List.length_drop]; omega
  · exact Nat.le_refl _
theorem size_list (s : B) : s.size = s.data.toList.length := by rw [Array.length_toList]; rfl

/-- nothing but block g has turned, and the heap may be longer -/
structure Onl (g : Nat) (w w' : World) : Prop where
  os : w'.os = w.os
  tape : w'.tape = w.tape
  output : w'.output = w.output
  size : w.heap.size ≤ w'.heap.size
  block : ∀ k, k < w.heap.size → k ≠ g → w'.heap[k]? = w.heap[k]?
theorem Onl.of {g : Nat} {w w' : World} (h : Below w.heap.size w w') : Onl g w w' := ⟨h.os, h.tape, h.output, h.size, fun k hk _ => h.block k hk⟩
theorem Onl.low {g : Nat} {w w' : World} (h : Onl g w w') (hg : g < w.heap.size) : Below g w w' := ⟨h.os, h.tape, h.output, h.size, fun k hk => h.block k (by omega) (by omega)⟩
theorem Onl.trans {g : Nat} {a b c : World} (h : Onl g a b) (k : Onl g b c) : Onl g a c :=
  ⟨k.os.trans h.os, k.tape.trans h.tape, k.output.trans h.output, Nat.le_trans h.size k.size, fun j hj hg => (k.block j (Nat.lt_of_lt_of_le hj h.size) hg).trans (h.block j hj hg)⟩
theorem Onl.set {g : Nat} {w w' : World} (h : Onl g w w') (i : Nat) (v : Value) : Onl g w (w'.setCell ⟨g, i, none⟩ v) :=
  ⟨h.os, h.tape, h.output, by simpa [World.setCell] using h.size, fun j hj hg => by rw [Below.heap_setCell _ _ _ _ (by simpa using hg)]; exact h.block j hj hg⟩
theorem take_x {V : List Value} {g : Nat} {s : B} (x : B) (w : World) (h : PB w g V s) :
    Calls Tryz.prog 52 #[.pointer (some ⟨g, 0, none⟩), .string x] w fun r w' => r = .returned (.bool (hp s.data.toList x.data.toList)) ∧ PB w' g V (mkB (tk s.data.toList x.data.toList)) ∧ Onl g w w' := by
  have H := Lib.hid h
  have hc := h.cell
  have hf := h.free 8
  clear h
  go_enter Tryz.func52, Tryz.ntmps52
  go_wp2_with fail
  refine (Tryz.strings_CutPrefix s x w).mono ?_
  rintro r w1 ⟨rfl, hw⟩
  subst hw
  go_wp2_with fail
  go_ret
  refine ⟨rfl, H.out.set _ ?_, (Onl.of (Below.refl _ _)).set 8 _⟩
  show (mkB _).size ≤ _
  rw [mkB_size]
  have := tk_size s.data.toList x.data.toList
  have h2 := H.out.2.1
  rw [size_list] at h2
  exact Nat.le_trans this h2
end Go.Proofs.YtcjakgpmompaiaaGreatDoor
