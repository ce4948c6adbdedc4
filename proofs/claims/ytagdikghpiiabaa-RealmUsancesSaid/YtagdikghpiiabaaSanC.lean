/-
  The laws' examples hold.
-/
import Derived.Test.YtagdikghpiiabaaSanB
import Derived.Laws.EntriesVeiled
namespace Go.Proofs.Ytagdikghpiiabaa
open Go.RowKit Rl

abbrev exL (n : Nat) : List Value := [.slice (some ⟨n + 1, 0, none⟩) 1 1, .slice (some ⟨n + 4, 0, none⟩) 2 2, .slice (some ⟨n + 5, 0, none⟩) 1 1, .slice (some ⟨n + 6, 0, none⟩) 2 2, .slice (some ⟨n + 7, 0, none⟩) 2 2, .slice (some ⟨n + 8, 0, none⟩) 1 1, .slice none 0 0, .slice none 0 0]
theorem Fl.new {w : World} (cs : Array Value) (T : TypeId) : Fl (w.alloc (.cells cs T)) w.heap.size cs.toList := Fl.heap (heap_alloc_new w _)
theorem below_set {W w : World} (h : Below W.heap.size W w) {p : Addr} (hp : W.heap.size ≤ p.block) (v : Value) : Below W.heap.size W (w.setCell p v) := h.setCell hp v
set_option maxHeartbeats 6400000 in
set_option maxRecDepth 100000 in
theorem sane_x (w : World) :
    Calls Try.prog 8 #[] w fun r w' => r = .returned (.bool true) ∧ Below w.heap.size w w' := by
  go_enter Try.func8, Try.ntmps8
  have BW := Lib.hid (Below.refl w.heap.size w)
  obtain ⟨n1, hn1⟩ : ∃ n, (w).heap.size = n := ⟨_, rfl⟩
  have N1 := Lib.hid hn1
  clear hn1
  go_wp2_with fail
  refine (example_x _ n1 N1.out).mono ?_
  rintro r w1 ⟨rfl, hw1⟩
  have bb : Below (w).heap.size (w) w1 := by rw [hw1]; exact ex_below _
  have ee : ExB w1 n1 (n1 + 2) sHope 5 6 := by rw [hw1]; have := ex_at (w); rw [N1.out] at this; exact this
  have ff : ∀ i o, i < 9 → w1.frozen? ⟨n1 + i, o, none⟩ = false := by intro i o h; rw [hw1]; have := ex_fz (w) i o h; rw [N1.out] at this; exact this
  have zz : Hid (w1.heap.size = n1 + 9) := by show _ = _; rw [hw1, ex_size, N1.out]
  clear hw1
  have ba := chain bb (Below.new1 (w := w1) (.cells #[.slice (some ⟨n1 + 1, 0, none⟩) 1 1, .slice (some ⟨n1 + 4, 0, none⟩) 2 2, .slice (some ⟨n1 + 5, 0, none⟩) 1 1, .slice (some ⟨n1 + 6, 0, none⟩) 2 2, .slice (some ⟨n1 + 7, 0, none⟩) 2 2, .slice (some ⟨n1 + 8, 0, none⟩) 1 1, .slice none 0 0, .slice none 0 0] 31))
  have E1 := Lib.hid (ee.next (Below.new1 (.cells #[.slice (some ⟨n1 + 1, 0, none⟩) 1 1, .slice (some ⟨n1 + 4, 0, none⟩) 2 2, .slice (some ⟨n1 + 5, 0, none⟩) 1 1, .slice (some ⟨n1 + 6, 0, none⟩) 2 2, .slice (some ⟨n1 + 7, 0, none⟩) 2 2, .slice (some ⟨n1 + 8, 0, none⟩) 1 1, .slice none 0 0, .slice none 0 0] 31)))
  have BW' := Lib.hid (chain BW.out ba)
  clear BW
  have BW := BW'
  have X1 := Lib.hid (Fl.new (w := w1) #[.slice (some ⟨n1 + 1, 0, none⟩) 1 1, .slice (some ⟨n1 + 4, 0, none⟩) 2 2, .slice (some ⟨n1 + 5, 0, none⟩) 1 1, .slice (some ⟨n1 + 6, 0, none⟩) 2 2, .slice (some ⟨n1 + 7, 0, none⟩) 2 2, .slice (some ⟨n1 + 8, 0, none⟩) 1 1, .slice none 0 0, .slice none 0 0] 31)
  clear BW' bb ee ff ba
  obtain ⟨n2, hn2⟩ : ∃ n, ((w1.alloc (.cells #[.slice (some ⟨n1 + 1, 0, none⟩) 1 1, .slice (some ⟨n1 + 4, 0, none⟩) 2 2, .slice (some ⟨n1 + 5, 0, none⟩) 1 1, .slice (some ⟨n1 + 6, 0, none⟩) 2 2, .slice (some ⟨n1 + 7, 0, none⟩) 2 2, .slice (some ⟨n1 + 8, 0, none⟩) 1 1, .slice none 0 0, .slice none 0 0] 31))).heap.size = n := ⟨_, rfl⟩
  have N2 := Lib.hid hn2
  clear hn2
  go_wp2_with fail
  refine (example_x _ n2 N2.out).mono ?_
  rintro r w2 ⟨rfl, hw2⟩
  have bb : Below ((w1.alloc (.cells #[.slice (some ⟨n1 + 1, 0, none⟩) 1 1, .slice (some ⟨n1 + 4, 0, none⟩) 2 2, .slice (some ⟨n1 + 5, 0, none⟩) 1 1, .slice (some ⟨n1 + 6, 0, none⟩) 2 2, .slice (some ⟨n1 + 7, 0, none⟩) 2 2, .slice (some ⟨n1 + 8, 0, none⟩) 1 1, .slice none 0 0, .slice none 0 0] 31))).heap.size ((w1.alloc (.cells #[.slice (some ⟨n1 + 1, 0, none⟩) 1 1, .slice (some ⟨n1 + 4, 0, none⟩) 2 2, .slice (some ⟨n1 + 5, 0, none⟩) 1 1, .slice (some ⟨n1 + 6, 0, none⟩) 2 2, .slice (some ⟨n1 + 7, 0, none⟩) 2 2, .slice (some ⟨n1 + 8, 0, none⟩) 1 1, .slice none 0 0, .slice none 0 0] 31))) w2 := by rw [hw2]; exact ex_below _
  have ee : ExB w2 n2 (n2 + 2) sHope 5 6 := by rw [hw2]; have := ex_at ((w1.alloc (.cells #[.slice (some ⟨n1 + 1, 0, none⟩) 1 1, .slice (some ⟨n1 + 4, 0, none⟩) 2 2, .slice (some ⟨n1 + 5, 0, none⟩) 1 1, .slice (some ⟨n1 + 6, 0, none⟩) 2 2, .slice (some ⟨n1 + 7, 0, none⟩) 2 2, .slice (some ⟨n1 + 8, 0, none⟩) 1 1, .slice none 0 0, .slice none 0 0] 31))); rw [N2.out] at this; exact this
  have ff : ∀ i o, i < 9 → w2.frozen? ⟨n2 + i, o, none⟩ = false := by intro i o h; rw [hw2]; have := ex_fz ((w1.alloc (.cells #[.slice (some ⟨n1 + 1, 0, none⟩) 1 1, .slice (some ⟨n1 + 4, 0, none⟩) 2 2, .slice (some ⟨n1 + 5, 0, none⟩) 1 1, .slice (some ⟨n1 + 6, 0, none⟩) 2 2, .slice (some ⟨n1 + 7, 0, none⟩) 2 2, .slice (some ⟨n1 + 8, 0, none⟩) 1 1, .slice none 0 0, .slice none 0 0] 31))) i o h; rw [N2.out] at this; exact this
  have zz : Hid (w2.heap.size = n2 + 9) := by show _ = _; rw [hw2, ex_size, N2.out]
  clear hw2
  have ba := chain bb (Below.new1 (w := w2) (.cells #[.slice (some ⟨n2 + 1, 0, none⟩) 1 1, .slice (some ⟨n2 + 4, 0, none⟩) 2 2, .slice (some ⟨n2 + 5, 0, none⟩) 1 1, .slice (some ⟨n2 + 6, 0, none⟩) 2 2, .slice (some ⟨n2 + 7, 0, none⟩) 2 2, .slice (some ⟨n2 + 8, 0, none⟩) 1 1, .slice none 0 0, .slice none 0 0] 31))
  have ea := ee.next (Below.new1 (.cells #[.slice (some ⟨n2 + 1, 0, none⟩) 1 1, .slice (some ⟨n2 + 4, 0, none⟩) 2 2, .slice (some ⟨n2 + 5, 0, none⟩) 1 1, .slice (some ⟨n2 + 6, 0, none⟩) 2 2, .slice (some ⟨n2 + 7, 0, none⟩) 2 2, .slice (some ⟨n2 + 8, 0, none⟩) 1 1, .slice none 0 0, .slice none 0 0] 31))
  have fa : (w2.alloc (.cells #[.slice (some ⟨n2 + 1, 0, none⟩) 1 1, .slice (some ⟨n2 + 4, 0, none⟩) 2 2, .slice (some ⟨n2 + 5, 0, none⟩) 1 1, .slice (some ⟨n2 + 6, 0, none⟩) 2 2, .slice (some ⟨n2 + 7, 0, none⟩) 2 2, .slice (some ⟨n2 + 8, 0, none⟩) 1 1, .slice none 0 0, .slice none 0 0] 31)).frozen? ⟨n2 + 6, 3, none⟩ = false := by rw [(Below.new1 (w := w2) (.cells #[.slice (some ⟨n2 + 1, 0, none⟩) 1 1, .slice (some ⟨n2 + 4, 0, none⟩) 2 2, .slice (some ⟨n2 + 5, 0, none⟩) 1 1, .slice (some ⟨n2 + 6, 0, none⟩) 2 2, .slice (some ⟨n2 + 7, 0, none⟩) 2 2, .slice (some ⟨n2 + 8, 0, none⟩) 1 1, .slice none 0 0, .slice none 0 0] 31)).frozen (p := ⟨n2 + 6, 3, none⟩) (by show n2 + 6 < _; rw [zz.out]; omega)]; exact ff 6 3 (by decide)
  have ca : (w2.alloc (.cells #[.slice (some ⟨n2 + 1, 0, none⟩) 1 1, .slice (some ⟨n2 + 4, 0, none⟩) 2 2, .slice (some ⟨n2 + 5, 0, none⟩) 1 1, .slice (some ⟨n2 + 6, 0, none⟩) 2 2, .slice (some ⟨n2 + 7, 0, none⟩) 2 2, .slice (some ⟨n2 + 8, 0, none⟩) 1 1, .slice none 0 0, .slice none 0 0] 31)).cell? ⟨n2 + 6, 3, none⟩ = some (.string sHope) := ea.firms.2 3 _ rfl
  have E2 := Lib.hid (ea.name (by omega) sBodmer)
  have xa := Fl.new (w := w2) #[.slice (some ⟨n2 + 1, 0, none⟩) 1 1, .slice (some ⟨n2 + 4, 0, none⟩) 2 2, .slice (some ⟨n2 + 5, 0, none⟩) 1 1, .slice (some ⟨n2 + 6, 0, none⟩) 2 2, .slice (some ⟨n2 + 7, 0, none⟩) 2 2, .slice (some ⟨n2 + 8, 0, none⟩) 1 1, .slice none 0 0, .slice none 0 0] 31
  have X2 := Lib.hid (xa.other (p := ⟨n2 + 6, 3, none⟩) (by show n2 + 6 ≠ _; rw [zz.out]; omega) (.string sBodmer))
  have bs : Below ((w1.alloc (.cells #[.slice (some ⟨n1 + 1, 0, none⟩) 1 1, .slice (some ⟨n1 + 4, 0, none⟩) 2 2, .slice (some ⟨n1 + 5, 0, none⟩) 1 1, .slice (some ⟨n1 + 6, 0, none⟩) 2 2, .slice (some ⟨n1 + 7, 0, none⟩) 2 2, .slice (some ⟨n1 + 8, 0, none⟩) 1 1, .slice none 0 0, .slice none 0 0] 31))).heap.size ((w1.alloc (.cells #[.slice (some ⟨n1 + 1, 0, none⟩) 1 1, .slice (some ⟨n1 + 4, 0, none⟩) 2 2, .slice (some ⟨n1 + 5, 0, none⟩) 1 1, .slice (some ⟨n1 + 6, 0, none⟩) 2 2, .slice (some ⟨n1 + 7, 0, none⟩) 2 2, .slice (some ⟨n1 + 8, 0, none⟩) 1 1, .slice none 0 0, .slice none 0 0] 31))) ((w2.alloc (.cells #[.slice (some ⟨n2 + 1, 0, none⟩) 1 1, .slice (some ⟨n2 + 4, 0, none⟩) 2 2, .slice (some ⟨n2 + 5, 0, none⟩) 1 1, .slice (some ⟨n2 + 6, 0, none⟩) 2 2, .slice (some ⟨n2 + 7, 0, none⟩) 2 2, .slice (some ⟨n2 + 8, 0, none⟩) 1 1, .slice none 0 0, .slice none 0 0] 31)).setCell ⟨n2 + 6, 3, none⟩ (.string sBodmer)) := below_set ba (p := ⟨n2 + 6, 3, none⟩) (by show ((w1.alloc (.cells #[.slice (some ⟨n1 + 1, 0, none⟩) 1 1, .slice (some ⟨n1 + 4, 0, none⟩) 2 2, .slice (some ⟨n1 + 5, 0, none⟩) 1 1, .slice (some ⟨n1 + 6, 0, none⟩) 2 2, .slice (some ⟨n1 + 7, 0, none⟩) 2 2, .slice (some ⟨n1 + 8, 0, none⟩) 1 1, .slice none 0 0, .slice none 0 0] 31))).heap.size ≤ n2 + 6; rw [N2.out]; omega) _
  have E1' := Lib.hid (E1.out.next bs)
  clear E1
  have E1 := E1'
  clear E1'
  have X1' := Lib.hid (X1.out.next bs)
  clear X1
  have X1 := X1'
  clear X1'
  have BW' := Lib.hid (chain BW.out bs)
  clear BW
  have BW := BW'
  clear BW' bb ee ff ba bs ea xa
  obtain ⟨n3, hn3⟩ : ∃ n, (((w2.alloc (.cells #[.slice (some ⟨n2 + 1, 0, none⟩) 1 1, .slice (some ⟨n2 + 4, 0, none⟩) 2 2, .slice (some ⟨n2 + 5, 0, none⟩) 1 1, .slice (some ⟨n2 + 6, 0, none⟩) 2 2, .slice (some ⟨n2 + 7, 0, none⟩) 2 2, .slice (some ⟨n2 + 8, 0, none⟩) 1 1, .slice none 0 0, .slice none 0 0] 31)).setCell ⟨n2 + 6, 3, none⟩ (.string sBodmer))).heap.size = n := ⟨_, rfl⟩
  have N3 := Lib.hid hn3
  clear hn3
  go_wp2_with fail
  refine (example_x _ n3 N3.out).mono ?_
  rintro r w3 ⟨rfl, hw3⟩
  have bb : Below (((w2.alloc (.cells #[.slice (some ⟨n2 + 1, 0, none⟩) 1 1, .slice (some ⟨n2 + 4, 0, none⟩) 2 2, .slice (some ⟨n2 + 5, 0, none⟩) 1 1, .slice (some ⟨n2 + 6, 0, none⟩) 2 2, .slice (some ⟨n2 + 7, 0, none⟩) 2 2, .slice (some ⟨n2 + 8, 0, none⟩) 1 1, .slice none 0 0, .slice none 0 0] 31)).setCell ⟨n2 + 6, 3, none⟩ (.string sBodmer))).heap.size (((w2.alloc (.cells #[.slice (some ⟨n2 + 1, 0, none⟩) 1 1, .slice (some ⟨n2 + 4, 0, none⟩) 2 2, .slice (some ⟨n2 + 5, 0, none⟩) 1 1, .slice (some ⟨n2 + 6, 0, none⟩) 2 2, .slice (some ⟨n2 + 7, 0, none⟩) 2 2, .slice (some ⟨n2 + 8, 0, none⟩) 1 1, .slice none 0 0, .slice none 0 0] 31)).setCell ⟨n2 + 6, 3, none⟩ (.string sBodmer))) w3 := by rw [hw3]; exact ex_below _
  have ee : ExB w3 n3 (n3 + 2) sHope 5 6 := by rw [hw3]; have := ex_at (((w2.alloc (.cells #[.slice (some ⟨n2 + 1, 0, none⟩) 1 1, .slice (some ⟨n2 + 4, 0, none⟩) 2 2, .slice (some ⟨n2 + 5, 0, none⟩) 1 1, .slice (some ⟨n2 + 6, 0, none⟩) 2 2, .slice (some ⟨n2 + 7, 0, none⟩) 2 2, .slice (some ⟨n2 + 8, 0, none⟩) 1 1, .slice none 0 0, .slice none 0 0] 31)).setCell ⟨n2 + 6, 3, none⟩ (.string sBodmer))); rw [N3.out] at this; exact this
  have ff : ∀ i o, i < 9 → w3.frozen? ⟨n3 + i, o, none⟩ = false := by intro i o h; rw [hw3]; have := ex_fz (((w2.alloc (.cells #[.slice (some ⟨n2 + 1, 0, none⟩) 1 1, .slice (some ⟨n2 + 4, 0, none⟩) 2 2, .slice (some ⟨n2 + 5, 0, none⟩) 1 1, .slice (some ⟨n2 + 6, 0, none⟩) 2 2, .slice (some ⟨n2 + 7, 0, none⟩) 2 2, .slice (some ⟨n2 + 8, 0, none⟩) 1 1, .slice none 0 0, .slice none 0 0] 31)).setCell ⟨n2 + 6, 3, none⟩ (.string sBodmer))) i o h; rw [N3.out] at this; exact this
  have zz : Hid (w3.heap.size = n3 + 9) := by show _ = _; rw [hw3, ex_size, N3.out]
  clear hw3
  have ba := chain bb (Below.new1 (w := w3) (.cells #[.slice (some ⟨n3 + 1, 0, none⟩) 1 1, .slice (some ⟨n3 + 4, 0, none⟩) 2 2, .slice (some ⟨n3 + 5, 0, none⟩) 1 1, .slice (some ⟨n3 + 6, 0, none⟩) 2 2, .slice (some ⟨n3 + 7, 0, none⟩) 2 2, .slice (some ⟨n3 + 8, 0, none⟩) 1 1, .slice none 0 0, .slice none 0 0] 31))
  have ea := ee.next (Below.new1 (.cells #[.slice (some ⟨n3 + 1, 0, none⟩) 1 1, .slice (some ⟨n3 + 4, 0, none⟩) 2 2, .slice (some ⟨n3 + 5, 0, none⟩) 1 1, .slice (some ⟨n3 + 6, 0, none⟩) 2 2, .slice (some ⟨n3 + 7, 0, none⟩) 2 2, .slice (some ⟨n3 + 8, 0, none⟩) 1 1, .slice none 0 0, .slice none 0 0] 31))
  have fa : (w3.alloc (.cells #[.slice (some ⟨n3 + 1, 0, none⟩) 1 1, .slice (some ⟨n3 + 4, 0, none⟩) 2 2, .slice (some ⟨n3 + 5, 0, none⟩) 1 1, .slice (some ⟨n3 + 6, 0, none⟩) 2 2, .slice (some ⟨n3 + 7, 0, none⟩) 2 2, .slice (some ⟨n3 + 8, 0, none⟩) 1 1, .slice none 0 0, .slice none 0 0] 31)).frozen? ⟨n3 + 6, 3, none⟩ = false := by rw [(Below.new1 (w := w3) (.cells #[.slice (some ⟨n3 + 1, 0, none⟩) 1 1, .slice (some ⟨n3 + 4, 0, none⟩) 2 2, .slice (some ⟨n3 + 5, 0, none⟩) 1 1, .slice (some ⟨n3 + 6, 0, none⟩) 2 2, .slice (some ⟨n3 + 7, 0, none⟩) 2 2, .slice (some ⟨n3 + 8, 0, none⟩) 1 1, .slice none 0 0, .slice none 0 0] 31)).frozen (p := ⟨n3 + 6, 3, none⟩) (by show n3 + 6 < _; rw [zz.out]; omega)]; exact ff 6 3 (by decide)
  have ca : (w3.alloc (.cells #[.slice (some ⟨n3 + 1, 0, none⟩) 1 1, .slice (some ⟨n3 + 4, 0, none⟩) 2 2, .slice (some ⟨n3 + 5, 0, none⟩) 1 1, .slice (some ⟨n3 + 6, 0, none⟩) 2 2, .slice (some ⟨n3 + 7, 0, none⟩) 2 2, .slice (some ⟨n3 + 8, 0, none⟩) 1 1, .slice none 0 0, .slice none 0 0] 31)).cell? ⟨n3 + 6, 3, none⟩ = some (.string sHope) := ea.firms.2 3 _ rfl
  have E3 := Lib.hid (ea.name (by omega) s2nd)
  have xa := Fl.new (w := w3) #[.slice (some ⟨n3 + 1, 0, none⟩) 1 1, .slice (some ⟨n3 + 4, 0, none⟩) 2 2, .slice (some ⟨n3 + 5, 0, none⟩) 1 1, .slice (some ⟨n3 + 6, 0, none⟩) 2 2, .slice (some ⟨n3 + 7, 0, none⟩) 2 2, .slice (some ⟨n3 + 8, 0, none⟩) 1 1, .slice none 0 0, .slice none 0 0] 31
  have X3 := Lib.hid (xa.other (p := ⟨n3 + 6, 3, none⟩) (by show n3 + 6 ≠ _; rw [zz.out]; omega) (.string s2nd))
  have bs : Below (((w2.alloc (.cells #[.slice (some ⟨n2 + 1, 0, none⟩) 1 1, .slice (some ⟨n2 + 4, 0, none⟩) 2 2, .slice (some ⟨n2 + 5, 0, none⟩) 1 1, .slice (some ⟨n2 + 6, 0, none⟩) 2 2, .slice (some ⟨n2 + 7, 0, none⟩) 2 2, .slice (some ⟨n2 + 8, 0, none⟩) 1 1, .slice none 0 0, .slice none 0 0] 31)).setCell ⟨n2 + 6, 3, none⟩ (.string sBodmer))).heap.size (((w2.alloc (.cells #[.slice (some ⟨n2 + 1, 0, none⟩) 1 1, .slice (some ⟨n2 + 4, 0, none⟩) 2 2, .slice (some ⟨n2 + 5, 0, none⟩) 1 1, .slice (some ⟨n2 + 6, 0, none⟩) 2 2, .slice (some ⟨n2 + 7, 0, none⟩) 2 2, .slice (some ⟨n2 + 8, 0, none⟩) 1 1, .slice none 0 0, .slice none 0 0] 31)).setCell ⟨n2 + 6, 3, none⟩ (.string sBodmer))) ((w3.alloc (.cells #[.slice (some ⟨n3 + 1, 0, none⟩) 1 1, .slice (some ⟨n3 + 4, 0, none⟩) 2 2, .slice (some ⟨n3 + 5, 0, none⟩) 1 1, .slice (some ⟨n3 + 6, 0, none⟩) 2 2, .slice (some ⟨n3 + 7, 0, none⟩) 2 2, .slice (some ⟨n3 + 8, 0, none⟩) 1 1, .slice none 0 0, .slice none 0 0] 31)).setCell ⟨n3 + 6, 3, none⟩ (.string s2nd)) := below_set ba (p := ⟨n3 + 6, 3, none⟩) (by show (((w2.alloc (.cells #[.slice (some ⟨n2 + 1, 0, none⟩) 1 1, .slice (some ⟨n2 + 4, 0, none⟩) 2 2, .slice (some ⟨n2 + 5, 0, none⟩) 1 1, .slice (some ⟨n2 + 6, 0, none⟩) 2 2, .slice (some ⟨n2 + 7, 0, none⟩) 2 2, .slice (some ⟨n2 + 8, 0, none⟩) 1 1, .slice none 0 0, .slice none 0 0] 31)).setCell ⟨n2 + 6, 3, none⟩ (.string sBodmer))).heap.size ≤ n3 + 6; rw [N3.out]; omega) _
  have E1' := Lib.hid (E1.out.next bs)
  clear E1
  have E1 := E1'
  clear E1'
  have E2' := Lib.hid (E2.out.next bs)
  clear E2
  have E2 := E2'
  clear E2'
  have X1' := Lib.hid (X1.out.next bs)
  clear X1
  have X1 := X1'
  clear X1'
  have X2' := Lib.hid (X2.out.next bs)
  clear X2
  have X2 := X2'
  clear X2'
  have BW' := Lib.hid (chain BW.out bs)
  clear BW
  have BW := BW'
  clear BW' bb ee ff ba bs ea xa
  obtain ⟨n4, hn4⟩ : ∃ n, (((w3.alloc (.cells #[.slice (some ⟨n3 + 1, 0, none⟩) 1 1, .slice (some ⟨n3 + 4, 0, none⟩) 2 2, .slice (some ⟨n3 + 5, 0, none⟩) 1 1, .slice (some ⟨n3 + 6, 0, none⟩) 2 2, .slice (some ⟨n3 + 7, 0, none⟩) 2 2, .slice (some ⟨n3 + 8, 0, none⟩) 1 1, .slice none 0 0, .slice none 0 0] 31)).setCell ⟨n3 + 6, 3, none⟩ (.string s2nd))).heap.size = n := ⟨_, rfl⟩
  have N4 := Lib.hid hn4
  clear hn4
  go_wp2_with fail
  refine (example_x _ n4 N4.out).mono ?_
  rintro r w4 ⟨rfl, hw4⟩
  have bb : Below (((w3.alloc (.cells #[.slice (some ⟨n3 + 1, 0, none⟩) 1 1, .slice (some ⟨n3 + 4, 0, none⟩) 2 2, .slice (some ⟨n3 + 5, 0, none⟩) 1 1, .slice (some ⟨n3 + 6, 0, none⟩) 2 2, .slice (some ⟨n3 + 7, 0, none⟩) 2 2, .slice (some ⟨n3 + 8, 0, none⟩) 1 1, .slice none 0 0, .slice none 0 0] 31)).setCell ⟨n3 + 6, 3, none⟩ (.string s2nd))).heap.size (((w3.alloc (.cells #[.slice (some ⟨n3 + 1, 0, none⟩) 1 1, .slice (some ⟨n3 + 4, 0, none⟩) 2 2, .slice (some ⟨n3 + 5, 0, none⟩) 1 1, .slice (some ⟨n3 + 6, 0, none⟩) 2 2, .slice (some ⟨n3 + 7, 0, none⟩) 2 2, .slice (some ⟨n3 + 8, 0, none⟩) 1 1, .slice none 0 0, .slice none 0 0] 31)).setCell ⟨n3 + 6, 3, none⟩ (.string s2nd))) w4 := by rw [hw4]; exact ex_below _
  have ee : ExB w4 n4 (n4 + 2) sHope 5 6 := by rw [hw4]; have := ex_at (((w3.alloc (.cells #[.slice (some ⟨n3 + 1, 0, none⟩) 1 1, .slice (some ⟨n3 + 4, 0, none⟩) 2 2, .slice (some ⟨n3 + 5, 0, none⟩) 1 1, .slice (some ⟨n3 + 6, 0, none⟩) 2 2, .slice (some ⟨n3 + 7, 0, none⟩) 2 2, .slice (some ⟨n3 + 8, 0, none⟩) 1 1, .slice none 0 0, .slice none 0 0] 31)).setCell ⟨n3 + 6, 3, none⟩ (.string s2nd))); rw [N4.out] at this; exact this
  have ff : ∀ i o, i < 9 → w4.frozen? ⟨n4 + i, o, none⟩ = false := by intro i o h; rw [hw4]; have := ex_fz (((w3.alloc (.cells #[.slice (some ⟨n3 + 1, 0, none⟩) 1 1, .slice (some ⟨n3 + 4, 0, none⟩) 2 2, .slice (some ⟨n3 + 5, 0, none⟩) 1 1, .slice (some ⟨n3 + 6, 0, none⟩) 2 2, .slice (some ⟨n3 + 7, 0, none⟩) 2 2, .slice (some ⟨n3 + 8, 0, none⟩) 1 1, .slice none 0 0, .slice none 0 0] 31)).setCell ⟨n3 + 6, 3, none⟩ (.string s2nd))) i o h; rw [N4.out] at this; exact this
  have zz : Hid (w4.heap.size = n4 + 9) := by show _ = _; rw [hw4, ex_size, N4.out]
  clear hw4
  have ba := chain bb (Below.new1 (w := w4) (.cells #[.slice (some ⟨n4 + 1, 0, none⟩) 1 1, .slice (some ⟨n4 + 4, 0, none⟩) 2 2, .slice (some ⟨n4 + 5, 0, none⟩) 1 1, .slice (some ⟨n4 + 6, 0, none⟩) 2 2, .slice (some ⟨n4 + 7, 0, none⟩) 2 2, .slice (some ⟨n4 + 8, 0, none⟩) 1 1, .slice none 0 0, .slice none 0 0] 31))
  have bv := Below.new1 (w := (w4.alloc (.cells #[.slice (some ⟨n4 + 1, 0, none⟩) 1 1, .slice (some ⟨n4 + 4, 0, none⟩) 2 2, .slice (some ⟨n4 + 5, 0, none⟩) 1 1, .slice (some ⟨n4 + 6, 0, none⟩) 2 2, .slice (some ⟨n4 + 7, 0, none⟩) 2 2, .slice (some ⟨n4 + 8, 0, none⟩) 1 1, .slice none 0 0, .slice none 0 0] 31))) (.cells #[.int .i64 6, .int .i64 5] 3)
  have zw : (w4.alloc (.cells #[.slice (some ⟨n4 + 1, 0, none⟩) 1 1, .slice (some ⟨n4 + 4, 0, none⟩) 2 2, .slice (some ⟨n4 + 5, 0, none⟩) 1 1, .slice (some ⟨n4 + 6, 0, none⟩) 2 2, .slice (some ⟨n4 + 7, 0, none⟩) 2 2, .slice (some ⟨n4 + 8, 0, none⟩) 1 1, .slice none 0 0, .slice none 0 0] 31)).heap.size = w4.heap.size + 1 := by simp
  have ea := (ee.next (Below.new1 (.cells #[.slice (some ⟨n4 + 1, 0, none⟩) 1 1, .slice (some ⟨n4 + 4, 0, none⟩) 2 2, .slice (some ⟨n4 + 5, 0, none⟩) 1 1, .slice (some ⟨n4 + 6, 0, none⟩) 2 2, .slice (some ⟨n4 + 7, 0, none⟩) 2 2, .slice (some ⟨n4 + 8, 0, none⟩) 1 1, .slice none 0 0, .slice none 0 0] 31))).next bv
  have fa : ((w4.alloc (.cells #[.slice (some ⟨n4 + 1, 0, none⟩) 1 1, .slice (some ⟨n4 + 4, 0, none⟩) 2 2, .slice (some ⟨n4 + 5, 0, none⟩) 1 1, .slice (some ⟨n4 + 6, 0, none⟩) 2 2, .slice (some ⟨n4 + 7, 0, none⟩) 2 2, .slice (some ⟨n4 + 8, 0, none⟩) 1 1, .slice none 0 0, .slice none 0 0] 31)).alloc (.cells #[.int .i64 6, .int .i64 5] 3)).frozen? ⟨n4 + 4, 3, none⟩ = false := by rw [bv.frozen (p := ⟨n4 + 4, 3, none⟩) (by show n4 + 4 < _; rw [zw, zz.out]; omega), (Below.new1 (w := w4) (.cells #[.slice (some ⟨n4 + 1, 0, none⟩) 1 1, .slice (some ⟨n4 + 4, 0, none⟩) 2 2, .slice (some ⟨n4 + 5, 0, none⟩) 1 1, .slice (some ⟨n4 + 6, 0, none⟩) 2 2, .slice (some ⟨n4 + 7, 0, none⟩) 2 2, .slice (some ⟨n4 + 8, 0, none⟩) 1 1, .slice none 0 0, .slice none 0 0] 31)).frozen (p := ⟨n4 + 4, 3, none⟩) (by show n4 + 4 < _; rw [zz.out]; omega)]; exact ff 4 3 (by decide)
  have ca : ((w4.alloc (.cells #[.slice (some ⟨n4 + 1, 0, none⟩) 1 1, .slice (some ⟨n4 + 4, 0, none⟩) 2 2, .slice (some ⟨n4 + 5, 0, none⟩) 1 1, .slice (some ⟨n4 + 6, 0, none⟩) 2 2, .slice (some ⟨n4 + 7, 0, none⟩) 2 2, .slice (some ⟨n4 + 8, 0, none⟩) 1 1, .slice none 0 0, .slice none 0 0] 31)).alloc (.cells #[.int .i64 6, .int .i64 5] 3)).cell? ⟨n4 + 4, 3, none⟩ = some (.slice (some ⟨n4 + 2, 0, none⟩) 2 2) := ea.cities.2 3 _ rfl
  have rr : Fl ((w4.alloc (.cells #[.slice (some ⟨n4 + 1, 0, none⟩) 1 1, .slice (some ⟨n4 + 4, 0, none⟩) 2 2, .slice (some ⟨n4 + 5, 0, none⟩) 1 1, .slice (some ⟨n4 + 6, 0, none⟩) 2 2, .slice (some ⟨n4 + 7, 0, none⟩) 2 2, .slice (some ⟨n4 + 8, 0, none⟩) 1 1, .slice none 0 0, .slice none 0 0] 31)).alloc (.cells #[.int .i64 6, .int .i64 5] 3)) (w4.heap.size + 1) (([6, 5] : List Int).map cInt).flatten := by rw [← zw]; exact Fl.new (w := (w4.alloc (.cells #[.slice (some ⟨n4 + 1, 0, none⟩) 1 1, .slice (some ⟨n4 + 4, 0, none⟩) 2 2, .slice (some ⟨n4 + 5, 0, none⟩) 1 1, .slice (some ⟨n4 + 6, 0, none⟩) 2 2, .slice (some ⟨n4 + 7, 0, none⟩) 2 2, .slice (some ⟨n4 + 8, 0, none⟩) 1 1, .slice none 0 0, .slice none 0 0] 31))) #[.int .i64 6, .int .i64 5] 3
  have E4 := Lib.hid (ea.rest (q' := w4.heap.size + 1) (by rw [zz.out]; omega) rr)
  have xa := (Fl.new (w := w4) #[.slice (some ⟨n4 + 1, 0, none⟩) 1 1, .slice (some ⟨n4 + 4, 0, none⟩) 2 2, .slice (some ⟨n4 + 5, 0, none⟩) 1 1, .slice (some ⟨n4 + 6, 0, none⟩) 2 2, .slice (some ⟨n4 + 7, 0, none⟩) 2 2, .slice (some ⟨n4 + 8, 0, none⟩) 1 1, .slice none 0 0, .slice none 0 0] 31).next bv
  have xc := xa.2
  have X4 := Lib.hid (xa.other (p := ⟨n4 + 4, 3, none⟩) (by show n4 + 4 ≠ _; rw [zz.out]; omega) (.slice (some ⟨w4.heap.size + 1, 0, none⟩) 2 2))
  have bs : Below (((w3.alloc (.cells #[.slice (some ⟨n3 + 1, 0, none⟩) 1 1, .slice (some ⟨n3 + 4, 0, none⟩) 2 2, .slice (some ⟨n3 + 5, 0, none⟩) 1 1, .slice (some ⟨n3 + 6, 0, none⟩) 2 2, .slice (some ⟨n3 + 7, 0, none⟩) 2 2, .slice (some ⟨n3 + 8, 0, none⟩) 1 1, .slice none 0 0, .slice none 0 0] 31)).setCell ⟨n3 + 6, 3, none⟩ (.string s2nd))).heap.size (((w3.alloc (.cells #[.slice (some ⟨n3 + 1, 0, none⟩) 1 1, .slice (some ⟨n3 + 4, 0, none⟩) 2 2, .slice (some ⟨n3 + 5, 0, none⟩) 1 1, .slice (some ⟨n3 + 6, 0, none⟩) 2 2, .slice (some ⟨n3 + 7, 0, none⟩) 2 2, .slice (some ⟨n3 + 8, 0, none⟩) 1 1, .slice none 0 0, .slice none 0 0] 31)).setCell ⟨n3 + 6, 3, none⟩ (.string s2nd))) (((w4.alloc (.cells #[.slice (some ⟨n4 + 1, 0, none⟩) 1 1, .slice (some ⟨n4 + 4, 0, none⟩) 2 2, .slice (some ⟨n4 + 5, 0, none⟩) 1 1, .slice (some ⟨n4 + 6, 0, none⟩) 2 2, .slice (some ⟨n4 + 7, 0, none⟩) 2 2, .slice (some ⟨n4 + 8, 0, none⟩) 1 1, .slice none 0 0, .slice none 0 0] 31)).alloc (.cells #[.int .i64 6, .int .i64 5] 3)).setCell ⟨n4 + 4, 3, none⟩ (.slice (some ⟨w4.heap.size + 1, 0, none⟩) 2 2)) := below_set (chain ba bv) (p := ⟨n4 + 4, 3, none⟩) (by show (((w3.alloc (.cells #[.slice (some ⟨n3 + 1, 0, none⟩) 1 1, .slice (some ⟨n3 + 4, 0, none⟩) 2 2, .slice (some ⟨n3 + 5, 0, none⟩) 1 1, .slice (some ⟨n3 + 6, 0, none⟩) 2 2, .slice (some ⟨n3 + 7, 0, none⟩) 2 2, .slice (some ⟨n3 + 8, 0, none⟩) 1 1, .slice none 0 0, .slice none 0 0] 31)).setCell ⟨n3 + 6, 3, none⟩ (.string s2nd))).heap.size ≤ n4 + 4; rw [N4.out]; omega) _
  have c1 : (w4.alloc (.cells #[.slice (some ⟨n4 + 1, 0, none⟩) 1 1, .slice (some ⟨n4 + 4, 0, none⟩) 2 2, .slice (some ⟨n4 + 5, 0, none⟩) 1 1, .slice (some ⟨n4 + 6, 0, none⟩) 2 2, .slice (some ⟨n4 + 7, 0, none⟩) 2 2, .slice (some ⟨n4 + 8, 0, none⟩) 1 1, .slice none 0 0, .slice none 0 0] 31)).cell? ⟨w4.heap.size, 1, none⟩ = some (.slice (some ⟨n4 + 4, 0, none⟩) 2 2) := (Fl.new (w := w4) #[.slice (some ⟨n4 + 1, 0, none⟩) 1 1, .slice (some ⟨n4 + 4, 0, none⟩) 2 2, .slice (some ⟨n4 + 5, 0, none⟩) 1 1, .slice (some ⟨n4 + 6, 0, none⟩) 2 2, .slice (some ⟨n4 + 7, 0, none⟩) 2 2, .slice (some ⟨n4 + 8, 0, none⟩) 1 1, .slice none 0 0, .slice none 0 0] 31).2 1 _ rfl
  have E1' := Lib.hid (E1.out.next bs)
  clear E1
  have E1 := E1'
  clear E1'
  have E2' := Lib.hid (E2.out.next bs)
  clear E2
  have E2 := E2'
  clear E2'
  have E3' := Lib.hid (E3.out.next bs)
  clear E3
  have E3 := E3'
  clear E3'
  have X1' := Lib.hid (X1.out.next bs)
  clear X1
  have X1 := X1'
  clear X1'
  have X2' := Lib.hid (X2.out.next bs)
  clear X2
  have X2 := X2'
  clear X2'
  have X3' := Lib.hid (X3.out.next bs)
  clear X3
  have X3 := X3'
  clear X3'
  have BW' := Lib.hid (chain BW.out bs)
  clear BW
  have BW := BW'
  clear BW' bb ee ff ba bs ea xa xc bv rr zw
  have y0 := X1.out.2 0 _ rfl
  have y1 := X1.out.2 1 _ rfl
  have y2 := X1.out.2 2 _ rfl
  have y3 := X1.out.2 3 _ rfl
  have y4 := X1.out.2 4 _ rfl
  have y5 := X1.out.2 5 _ rfl
  have y6 := X1.out.2 6 _ rfl
  have y7 := X1.out.2 7 _ rfl
  go_wp2_with fail
  try clear fa
  try clear ca
  refine (exU1 E1.out).mono ?_
  rintro r w5 ⟨rfl, bs⟩
  clear y0 y1 y2 y3 y4 y5 y6 y7
  have E1' := Lib.hid (E1.out.next bs)
  clear E1
  have E1 := E1'
  clear E1'
  have E2' := Lib.hid (E2.out.next bs)
  clear E2
  have E2 := E2'
  clear E2'
  have E3' := Lib.hid (E3.out.next bs)
  clear E3
  have E3 := E3'
  clear E3'
  have E4' := Lib.hid (E4.out.next bs)
  clear E4
  have E4 := E4'
  clear E4'
  have X1' := Lib.hid (X1.out.next bs)
  clear X1
  have X1 := X1'
  clear X1'
  have X2' := Lib.hid (X2.out.next bs)
  clear X2
  have X2 := X2'
  clear X2'
  have X3' := Lib.hid (X3.out.next bs)
  clear X3
  have X3 := X3'
  clear X3'
  have X4' := Lib.hid (X4.out.next bs)
  clear X4
  have X4 := X4'
  clear X4'
  have BW' := Lib.hid (chain BW.out bs)
  clear BW
  have BW := BW'
  clear BW' 
  clear bs
  have y0 := X1.out.2 0 _ rfl
  have y1 := X1.out.2 1 _ rfl
  have y2 := X1.out.2 2 _ rfl
  have y3 := X1.out.2 3 _ rfl
  have y4 := X1.out.2 4 _ rfl
  have y5 := X1.out.2 5 _ rfl
  have y6 := X1.out.2 6 _ rfl
  have y7 := X1.out.2 7 _ rfl
  go_wp2_with fail
  try clear fa
  try clear ca
  refine (exU2 E1.out).mono ?_
  rintro r w6 ⟨rfl, bs⟩
  clear y0 y1 y2 y3 y4 y5 y6 y7
  have E1' := Lib.hid (E1.out.next bs)
  clear E1
  have E1 := E1'
  clear E1'
  have E2' := Lib.hid (E2.out.next bs)
  clear E2
  have E2 := E2'
  clear E2'
  have E3' := Lib.hid (E3.out.next bs)
  clear E3
  have E3 := E3'
  clear E3'
  have E4' := Lib.hid (E4.out.next bs)
  clear E4
  have E4 := E4'
  clear E4'
  have X1' := Lib.hid (X1.out.next bs)
  clear X1
  have X1 := X1'
  clear X1'
  have X2' := Lib.hid (X2.out.next bs)
  clear X2
  have X2 := X2'
  clear X2'
  have X3' := Lib.hid (X3.out.next bs)
  clear X3
  have X3 := X3'
  clear X3'
  have X4' := Lib.hid (X4.out.next bs)
  clear X4
  have X4 := X4'
  clear X4'
  have BW' := Lib.hid (chain BW.out bs)
  clear BW
  have BW := BW'
  clear BW' 
  clear bs
  have y0 := X1.out.2 0 _ rfl
  have y1 := X1.out.2 1 _ rfl
  have y2 := X1.out.2 2 _ rfl
  have y3 := X1.out.2 3 _ rfl
  have y4 := X1.out.2 4 _ rfl
  have y5 := X1.out.2 5 _ rfl
  have y6 := X1.out.2 6 _ rfl
  have y7 := X1.out.2 7 _ rfl
  go_wp2_with fail
  try clear fa
  try clear ca
  refine (exC0 E1.out).mono ?_
  rintro r w7 ⟨rfl, bs⟩
  clear y0 y1 y2 y3 y4 y5 y6 y7
  have E1' := Lib.hid (E1.out.next bs)
  clear E1
  have E1 := E1'
  clear E1'
  have E2' := Lib.hid (E2.out.next bs)
  clear E2
  have E2 := E2'
  clear E2'
  have E3' := Lib.hid (E3.out.next bs)
  clear E3
  have E3 := E3'
  clear E3'
  have E4' := Lib.hid (E4.out.next bs)
  clear E4
  have E4 := E4'
  clear E4'
  have X1' := Lib.hid (X1.out.next bs)
  clear X1
  have X1 := X1'
  clear X1'
  have X2' := Lib.hid (X2.out.next bs)
  clear X2
  have X2 := X2'
  clear X2'
  have X3' := Lib.hid (X3.out.next bs)
  clear X3
  have X3 := X3'
  clear X3'
  have X4' := Lib.hid (X4.out.next bs)
  clear X4
  have X4 := X4'
  clear X4'
  have BW' := Lib.hid (chain BW.out bs)
  clear BW
  have BW := BW'
  clear BW' 
  clear bs
  have y0 := X2.out.2 0 _ rfl
  have y1 := X2.out.2 1 _ rfl
  have y2 := X2.out.2 2 _ rfl
  have y3 := X2.out.2 3 _ rfl
  have y4 := X2.out.2 4 _ rfl
  have y5 := X2.out.2 5 _ rfl
  have y6 := X2.out.2 6 _ rfl
  have y7 := X2.out.2 7 _ rfl
  go_wp2_with fail
  try clear fa
  try clear ca
  refine (exC1 E2.out).mono ?_
  rintro r w8 ⟨rfl, bs⟩
  clear y0 y1 y2 y3 y4 y5 y6 y7
  have E1' := Lib.hid (E1.out.next bs)
  clear E1
  have E1 := E1'
  clear E1'
  have E2' := Lib.hid (E2.out.next bs)
  clear E2
  have E2 := E2'
  clear E2'
  have E3' := Lib.hid (E3.out.next bs)
  clear E3
  have E3 := E3'
  clear E3'
  have E4' := Lib.hid (E4.out.next bs)
  clear E4
  have E4 := E4'
  clear E4'
  have X1' := Lib.hid (X1.out.next bs)
  clear X1
  have X1 := X1'
  clear X1'
  have X2' := Lib.hid (X2.out.next bs)
  clear X2
  have X2 := X2'
  clear X2'
  have X3' := Lib.hid (X3.out.next bs)
  clear X3
  have X3 := X3'
  clear X3'
  have X4' := Lib.hid (X4.out.next bs)
  clear X4
  have X4 := X4'
  clear X4'
  have BW' := Lib.hid (chain BW.out bs)
  clear BW
  have BW := BW'
  clear BW' 
  clear bs
  have y0 := X3.out.2 0 _ rfl
  have y1 := X3.out.2 1 _ rfl
  have y2 := X3.out.2 2 _ rfl
  have y3 := X3.out.2 3 _ rfl
  have y4 := X3.out.2 4 _ rfl
  have y5 := X3.out.2 5 _ rfl
  have y6 := X3.out.2 6 _ rfl
  have y7 := X3.out.2 7 _ rfl
  go_wp2_with fail
  try clear fa
  try clear ca
  refine (exC2 E3.out).mono ?_
  rintro r w9 ⟨rfl, bs⟩
  clear y0 y1 y2 y3 y4 y5 y6 y7
  have E1' := Lib.hid (E1.out.next bs)
  clear E1
  have E1 := E1'
  clear E1'
  have E2' := Lib.hid (E2.out.next bs)
  clear E2
  have E2 := E2'
  clear E2'
  have E3' := Lib.hid (E3.out.next bs)
  clear E3
  have E3 := E3'
  clear E3'
  have E4' := Lib.hid (E4.out.next bs)
  clear E4
  have E4 := E4'
  clear E4'
  have X1' := Lib.hid (X1.out.next bs)
  clear X1
  have X1 := X1'
  clear X1'
  have X2' := Lib.hid (X2.out.next bs)
  clear X2
  have X2 := X2'
  clear X2'
  have X3' := Lib.hid (X3.out.next bs)
  clear X3
  have X3 := X3'
  clear X3'
  have X4' := Lib.hid (X4.out.next bs)
  clear X4
  have X4 := X4'
  clear X4'
  have BW' := Lib.hid (chain BW.out bs)
  clear BW
  have BW := BW'
  clear BW' 
  clear bs
  have y0 := X4.out.2 0 _ rfl
  have y1 := X4.out.2 1 _ rfl
  have y2 := X4.out.2 2 _ rfl
  have y3 := X4.out.2 3 _ rfl
  have y4 := X4.out.2 4 _ rfl
  have y5 := X4.out.2 5 _ rfl
  have y6 := X4.out.2 6 _ rfl
  have y7 := X4.out.2 7 _ rfl
  go_wp2_with fail
  try clear fa
  try clear ca
  refine (exC3 E4.out).mono ?_
  rintro r w10 ⟨rfl, bs⟩
  clear y0 y1 y2 y3 y4 y5 y6 y7
  have E1' := Lib.hid (E1.out.next bs)
  clear E1
  have E1 := E1'
  clear E1'
  have E2' := Lib.hid (E2.out.next bs)
  clear E2
  have E2 := E2'
  clear E2'
  have E3' := Lib.hid (E3.out.next bs)
  clear E3
  have E3 := E3'
  clear E3'
  have E4' := Lib.hid (E4.out.next bs)
  clear E4
  have E4 := E4'
  clear E4'
  have X1' := Lib.hid (X1.out.next bs)
  clear X1
  have X1 := X1'
  clear X1'
  have X2' := Lib.hid (X2.out.next bs)
  clear X2
  have X2 := X2'
  clear X2'
  have X3' := Lib.hid (X3.out.next bs)
  clear X3
  have X3 := X3'
  clear X3'
  have X4' := Lib.hid (X4.out.next bs)
  clear X4
  have X4 := X4'
  clear X4'
  have BW' := Lib.hid (chain BW.out bs)
  clear BW
  have BW := BW'
  clear BW' 
  clear bs
  have y0 := X1.out.2 0 _ rfl
  have y1 := X1.out.2 1 _ rfl
  have y2 := X1.out.2 2 _ rfl
  have y3 := X1.out.2 3 _ rfl
  have y4 := X1.out.2 4 _ rfl
  have y5 := X1.out.2 5 _ rfl
  have y6 := X1.out.2 6 _ rfl
  have y7 := X1.out.2 7 _ rfl
  go_wp2_with fail
  try clear fa
  try clear ca
  refine (exO1 E1.out).mono ?_
  rintro r w11 ⟨rfl, bs⟩
  clear y0 y1 y2 y3 y4 y5 y6 y7
  have E1' := Lib.hid (E1.out.next bs)
  clear E1
  have E1 := E1'
  clear E1'
  have E2' := Lib.hid (E2.out.next bs)
  clear E2
  have E2 := E2'
  clear E2'
  have E3' := Lib.hid (E3.out.next bs)
  clear E3
  have E3 := E3'
  clear E3'
  have E4' := Lib.hid (E4.out.next bs)
  clear E4
  have E4 := E4'
  clear E4'
  have X1' := Lib.hid (X1.out.next bs)
  clear X1
  have X1 := X1'
  clear X1'
  have X2' := Lib.hid (X2.out.next bs)
  clear X2
  have X2 := X2'
  clear X2'
  have X3' := Lib.hid (X3.out.next bs)
  clear X3
  have X3 := X3'
  clear X3'
  have X4' := Lib.hid (X4.out.next bs)
  clear X4
  have X4 := X4'
  clear X4'
  have BW' := Lib.hid (chain BW.out bs)
  clear BW
  have BW := BW'
  clear BW' 
  clear bs
  have y0 := X1.out.2 0 _ rfl
  have y1 := X1.out.2 1 _ rfl
  have y2 := X1.out.2 2 _ rfl
  have y3 := X1.out.2 3 _ rfl
  have y4 := X1.out.2 4 _ rfl
  have y5 := X1.out.2 5 _ rfl
  have y6 := X1.out.2 6 _ rfl
  have y7 := X1.out.2 7 _ rfl
  go_wp2_with fail
  try clear fa
  try clear ca
  refine (exO2 E1.out).mono ?_
  rintro r w12 ⟨rfl, bs⟩
  clear y0 y1 y2 y3 y4 y5 y6 y7
  have E1' := Lib.hid (E1.out.next bs)
  clear E1
  have E1 := E1'
  clear E1'
  have E2' := Lib.hid (E2.out.next bs)
  clear E2
  have E2 := E2'
  clear E2'
  have E3' := Lib.hid (E3.out.next bs)
  clear E3
  have E3 := E3'
  clear E3'
  have E4' := Lib.hid (E4.out.next bs)
  clear E4
  have E4 := E4'
  clear E4'
  have X1' := Lib.hid (X1.out.next bs)
  clear X1
  have X1 := X1'
  clear X1'
  have X2' := Lib.hid (X2.out.next bs)
  clear X2
  have X2 := X2'
  clear X2'
  have X3' := Lib.hid (X3.out.next bs)
  clear X3
  have X3 := X3'
  clear X3'
  have X4' := Lib.hid (X4.out.next bs)
  clear X4
  have X4 := X4'
  clear X4'
  have BW' := Lib.hid (chain BW.out bs)
  clear BW
  have BW := BW'
  clear BW' 
  clear bs
  have y0 := X1.out.2 0 _ rfl
  have y1 := X1.out.2 1 _ rfl
  have y2 := X1.out.2 2 _ rfl
  have y3 := X1.out.2 3 _ rfl
  have y4 := X1.out.2 4 _ rfl
  have y5 := X1.out.2 5 _ rfl
  have y6 := X1.out.2 6 _ rfl
  have y7 := X1.out.2 7 _ rfl
  go_wp2_with fail
  try clear fa
  try clear ca
  refine (exM1 E1.out).mono ?_
  rintro r w13 ⟨⟨v, rfl, hv⟩, bs⟩
  clear y0 y1 y2 y3 y4 y5 y6 y7
  have E1' := Lib.hid (E1.out.next bs)
  clear E1
  have E1 := E1'
  clear E1'
  have E2' := Lib.hid (E2.out.next bs)
  clear E2
  have E2 := E2'
  clear E2'
  have E3' := Lib.hid (E3.out.next bs)
  clear E3
  have E3 := E3'
  clear E3'
  have E4' := Lib.hid (E4.out.next bs)
  clear E4
  have E4 := E4'
  clear E4'
  have X1' := Lib.hid (X1.out.next bs)
  clear X1
  have X1 := X1'
  clear X1'
  have X2' := Lib.hid (X2.out.next bs)
  clear X2
  have X2 := X2'
  clear X2'
  have X3' := Lib.hid (X3.out.next bs)
  clear X3
  have X3 := X3'
  clear X3'
  have X4' := Lib.hid (X4.out.next bs)
  clear X4
  have X4 := X4'
  clear X4'
  have BW' := Lib.hid (chain BW.out bs)
  clear BW
  have BW := BW'
  clear BW' 
  clear bs
  have b0 := Below.new1 (w := w13) (.cells #[.int .i64 0, .int .i64 1] 3)
  have hl : IAt (w13.alloc (.cells #[.int .i64 0, .int .i64 1] 3)) (.slice (some ⟨w13.heap.size, 0, none⟩) 2 2) [0, 1] := (Fl.new (w := w13) #[.int .i64 0, .int .i64 1] 3).row (c := cInt) (l := [0, 1]) (fun _ _ => rfl) (Nat.le_refl _)
  have HV := Lib.hid (hv.next b0)
  have HL := Lib.hid hl
  have B0 := Lib.hid b0
  clear b0 hl hv
  go_wp2_with fail
  refine (SameInts_x _ _ [0, 1] [0, 1] _ HV.out HL.out (by decide)).mono ?_
  rintro r w14 ⟨rfl, bs⟩
  rw [show decide (([0, 1] : List Int) = [0, 1]) = true from rfl]
  have bs := chain B0.out bs
  have E1' := Lib.hid (E1.out.next bs)
  clear E1
  have E1 := E1'
  clear E1'
  have E2' := Lib.hid (E2.out.next bs)
  clear E2
  have E2 := E2'
  clear E2'
  have E3' := Lib.hid (E3.out.next bs)
  clear E3
  have E3 := E3'
  clear E3'
  have E4' := Lib.hid (E4.out.next bs)
  clear E4
  have E4 := E4'
  clear E4'
  have X1' := Lib.hid (X1.out.next bs)
  clear X1
  have X1 := X1'
  clear X1'
  have X2' := Lib.hid (X2.out.next bs)
  clear X2
  have X2 := X2'
  clear X2'
  have X3' := Lib.hid (X3.out.next bs)
  clear X3
  have X3 := X3'
  clear X3'
  have X4' := Lib.hid (X4.out.next bs)
  clear X4
  have X4 := X4'
  clear X4'
  have BW' := Lib.hid (chain BW.out bs)
  clear BW
  have BW := BW'
  clear BW' bs
  have y0 := X1.out.2 0 _ rfl
  have y1 := X1.out.2 1 _ rfl
  have y2 := X1.out.2 2 _ rfl
  have y3 := X1.out.2 3 _ rfl
  have y4 := X1.out.2 4 _ rfl
  have y5 := X1.out.2 5 _ rfl
  have y6 := X1.out.2 6 _ rfl
  have y7 := X1.out.2 7 _ rfl
  go_wp2_with fail
  try clear fa
  try clear ca
  refine (exG1 E1.out).mono ?_
  rintro r w15 ⟨rfl, bs⟩
  clear y0 y1 y2 y3 y4 y5 y6 y7
  have E1' := Lib.hid (E1.out.next bs)
  clear E1
  have E1 := E1'
  clear E1'
  have E2' := Lib.hid (E2.out.next bs)
  clear E2
  have E2 := E2'
  clear E2'
  have E3' := Lib.hid (E3.out.next bs)
  clear E3
  have E3 := E3'
  clear E3'
  have E4' := Lib.hid (E4.out.next bs)
  clear E4
  have E4 := E4'
  clear E4'
  have X1' := Lib.hid (X1.out.next bs)
  clear X1
  have X1 := X1'
  clear X1'
  have X2' := Lib.hid (X2.out.next bs)
  clear X2
  have X2 := X2'
  clear X2'
  have X3' := Lib.hid (X3.out.next bs)
  clear X3
  have X3 := X3'
  clear X3'
  have X4' := Lib.hid (X4.out.next bs)
  clear X4
  have X4 := X4'
  clear X4'
  have BW' := Lib.hid (chain BW.out bs)
  clear BW
  have BW := BW'
  clear BW' 
  clear bs
  have y0 := X1.out.2 0 _ rfl
  have y1 := X1.out.2 1 _ rfl
  have y2 := X1.out.2 2 _ rfl
  have y3 := X1.out.2 3 _ rfl
  have y4 := X1.out.2 4 _ rfl
  have y5 := X1.out.2 5 _ rfl
  have y6 := X1.out.2 6 _ rfl
  have y7 := X1.out.2 7 _ rfl
  go_wp2_with fail
  try clear fa
  try clear ca
  refine (exF1 E1.out).mono ?_
  rintro r w16 ⟨rfl, bs⟩
  clear y0 y1 y2 y3 y4 y5 y6 y7
  have E1' := Lib.hid (E1.out.next bs)
  clear E1
  have E1 := E1'
  clear E1'
  have E2' := Lib.hid (E2.out.next bs)
  clear E2
  have E2 := E2'
  clear E2'
  have E3' := Lib.hid (E3.out.next bs)
  clear E3
  have E3 := E3'
  clear E3'
  have E4' := Lib.hid (E4.out.next bs)
  clear E4
  have E4 := E4'
  clear E4'
  have X1' := Lib.hid (X1.out.next bs)
  clear X1
  have X1 := X1'
  clear X1'
  have X2' := Lib.hid (X2.out.next bs)
  clear X2
  have X2 := X2'
  clear X2'
  have X3' := Lib.hid (X3.out.next bs)
  clear X3
  have X3 := X3'
  clear X3'
  have X4' := Lib.hid (X4.out.next bs)
  clear X4
  have X4 := X4'
  clear X4'
  have BW' := Lib.hid (chain BW.out bs)
  clear BW
  have BW := BW'
  clear BW' 
  clear bs
  have y0 := X1.out.2 0 _ rfl
  have y1 := X1.out.2 1 _ rfl
  have y2 := X1.out.2 2 _ rfl
  have y3 := X1.out.2 3 _ rfl
  have y4 := X1.out.2 4 _ rfl
  have y5 := X1.out.2 5 _ rfl
  have y6 := X1.out.2 6 _ rfl
  have y7 := X1.out.2 7 _ rfl
  go_wp2_with fail
  try clear fa
  try clear ca
  refine (exY1 E1.out).mono ?_
  rintro r w17 ⟨rfl, bs⟩
  clear y0 y1 y2 y3 y4 y5 y6 y7
  have E1' := Lib.hid (E1.out.next bs)
  clear E1
  have E1 := E1'
  clear E1'
  have E2' := Lib.hid (E2.out.next bs)
  clear E2
  have E2 := E2'
  clear E2'
  have E3' := Lib.hid (E3.out.next bs)
  clear E3
  have E3 := E3'
  clear E3'
  have E4' := Lib.hid (E4.out.next bs)
  clear E4
  have E4 := E4'
  clear E4'
  have X1' := Lib.hid (X1.out.next bs)
  clear X1
  have X1 := X1'
  clear X1'
  have X2' := Lib.hid (X2.out.next bs)
  clear X2
  have X2 := X2'
  clear X2'
  have X3' := Lib.hid (X3.out.next bs)
  clear X3
  have X3 := X3'
  clear X3'
  have X4' := Lib.hid (X4.out.next bs)
  clear X4
  have X4 := X4'
  clear X4'
  have BW' := Lib.hid (chain BW.out bs)
  clear BW
  have BW := BW'
  clear BW' 
  clear bs
  go_wp2_with fail
  go_ret
  exact ⟨rfl, BW.out⟩

end Go.Proofs.Ytagdikghpiiabaa
