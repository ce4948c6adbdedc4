/-
  wire.appendString, writeList, Int, String, Ints, Strings: each returns the encoding.
-/
import Derived.Test.YtemldlhhlneleaaDoorWiAppI
namespace Go.Proofs.YtemldlhhlneleaaDoor.Wi
open Go.RowKit


theorem strCells_bc (s : ByteArray) : Lib.strCells s = bc s.data.toList := rfl

set_option maxHeartbeats 400000 in
set_option maxRecDepth 100000 in
theorem appendString_x (B : Nat) (v : Value) (m : Nat) (xs : List Value) (s : ByteArray) (w : World) (hB : B ≤ w.heap.size) (hown : w.ownsRow B 5 1 v m xs) (hs : s.size ≤ 1099511627776) (hm : m ≤ 1099511627776) :
    Calls Tryd.prog 52 #[v, .string s] w fun e w' => ∃ v', e = .returned v' ∧ w'.ownsRow B 5 1 v' (m + (Wm.encS s.data.toList).length) (xs ++ bc (Wm.encS s.data.toList)) ∧ Below B w w' := by
  obtain ⟨i0, hi, hz0, hz1, hz2⟩ := info_parts info5
  have hel := (Wm.encI_len (s.size : Int)).2
  go_enter Tryd.func52, Tryd.ntmps52
  go_wp2_with fail
  refine (appendInt_x B v m xs (s.size : Int) _ hB hown (by omega) (by omega) hm).mono ?_
  rintro e w1 ⟨v1, rfl, hown1, hb1⟩
  have hB1 : B ≤ w1.heap.size := by have := hb1.size; omega
  go_wp2_with (at_builtin; refine Lib.wpList_append_own_string _ rfl (.tmp 8) (.tmp 9) 71 9 rfl B 5 i0 Tryd.underlying71 Tryd.underlying9 hi hz0 hz1 hz2 _ _ _ rfl hown1 s rfl ?c1 ?c2 ?c3 ?_)
  case c1 => unfold maxLen; omega
  case c2 => omega
  case c3 => omega
  intro v2 w2 hown2 hgrow2 _
  go_wp2
  go_ret
  refine ⟨v2, rfl, ?_, hb1.grown hgrow2 hB1 (fun j hj => (hown1.lt j hj).1)⟩
  unfold Wm.encS
  rw [← size_of s, bc_append, List.length_append, ← size_of s, ← Nat.add_assoc]
  exact hown2

/-- A slice value reads as a list of values. -/
def SlAt (w : World) (v : Value) (vs : List Value) : Prop := ∃ a cap, v = .slice a vs.length cap ∧ ∀ j x, vs[j]? = some x → ∃ b off, a = some ⟨b, off, none⟩ ∧ b < w.heap.size ∧ w.cell? ⟨b, off + j, none⟩ = some x

theorem SlAt.below {w w' : World} {v : Value} {vs : List Value} {B : Nat} (h : SlAt w v vs) (hb : Below B w w') (hB : w.heap.size ≤ B) : SlAt w' v vs := by
  obtain ⟨a, cap, rfl, h⟩ := h
  refine ⟨a, cap, rfl, fun j x hx => ?_⟩
  obtain ⟨b, off, e, hlt, hc⟩ := h j x hx
  refine ⟨b, off, e, by have := hb.size; omega, ?_⟩
  rw [hb.cell (p := ⟨b, off + j, none⟩) (by show b < B; omega)]
  exact hc

end Go.Proofs.YtemldlhhlneleaaDoor.Wi

/-
  wire.Int, String, Ints, Strings: each returns the encoding as a string.
-/
namespace Go.Proofs.YtemldlhhlneleaaDoor.Wi
open Go.RowKit


theorem conv_own {w : World} {B : Nat} {v : Value} {l : List UInt8} (h : w.ownsRow B 5 1 v l.length (bc l)) (hl : 0 < l.length) : (convert 71 9 v).run Tryd.prog w = .ok (.string (mk l)) w := by
  rcases h.2 with ⟨_, h0⟩ | ⟨g, cap, cur, rfl, _, hg, _, _, _, htake⟩
  · omega
  · refine run_convert_bytes_back w 71 9 5 ⟨g, 0, none⟩ cap l Tryd.underlying71 Tryd.underlying5 Tryd.underlying9 (fun j hj => ?_)
    exact h.cells (g := g) rfl j _ (by simp [bc, List.getElem?_map, List.getElem?_eq_getElem hj])

theorem String_x (s : ByteArray) (w : World) (hs : s.size ≤ 1099511627776) : Calls Tryd.prog 30 #[.string s] w fun e w' => e = .returned (.string (mk (Wm.encS s.data.toList))) ∧ Below w.heap.size w w' := by
  have hl := (Wm.encI_len (s.data.toList.length : Int)).1
  go_enter Tryd.func30, Tryd.ntmps30
  go_wp2_with fail
  refine (appendString_x w.heap.size _ 0 [] s _ (Nat.le_refl _) (World.ownsRow_nil _ _ _ _) hs (by omega)).mono ?_
  rintro e w1 ⟨v1, rfl, hown1, hb1⟩
  have hconv := conv_own (l := Wm.encS s.data.toList) (by simpa using hown1) (by unfold Wm.encS; rw [List.length_append]; omega)
  go_wp2_with fail
  go_ret
  exact ⟨rfl, hb1⟩

end Go.Proofs.YtemldlhhlneleaaDoor.Wi

