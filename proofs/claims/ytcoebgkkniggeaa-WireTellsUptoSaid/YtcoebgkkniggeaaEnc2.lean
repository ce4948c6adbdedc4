/-
  wire.Int, String, Ints, Strings: each returns the encoding as a string.
-/
import Derived.Test.YtcoebgkkniggeaaEnc
namespace Go.Proofs.Ytcoebgkkniggeaa
open Go.RowKit

theorem conv_own {w : World} {B : Nat} {v : Value} {l : List UInt8} (h : w.ownsRow B 5 1 v l.length (bc l)) (hl : 0 < l.length) : (convert 44 9 v).run Try.prog w = .ok (.string (mk l)) w := by
  rcases h.2 with ⟨_, h0⟩ | ⟨g, cap, cur, rfl, _, hg, _, _, _, htake⟩
  · omega
  · refine run_convert_bytes_back w 44 9 5 ⟨g, 0, none⟩ cap l Try.underlying44 Try.underlying5 Try.underlying9 (fun j hj => ?_)
    exact h.cells (g := g) rfl j _ (by simp [bc, List.getElem?_map, List.getElem?_eq_getElem hj])

theorem Int_x (n : Int) (w : World) (hn : Wm.isInt n) : Calls Try.prog 9 #[.int .i64 n] w fun e w' => e = .returned (.string (mk (Wm.encI n))) ∧ Below w.heap.size w w' := by
  have hl := (Wm.encI_len n).1
  go_enter Try.func9, Try.ntmps9
  go_wp2_with fail
  refine (appendInt_x w.heap.size _ 0 [] n _ (Nat.le_refl _) (World.ownsRow_nil _ _ _ _) hn.1 hn.2 (by omega)).mono ?_
  rintro e w1 ⟨v1, rfl, hown1, hb1⟩
  have hconv := conv_own (l := Wm.encI n) (by simpa using hown1) (by omega)
  go_wp2_with fail
  go_ret
  exact ⟨rfl, hb1⟩

theorem String_x (s : ByteArray) (w : World) (hs : s.size ≤ 1099511627776) : Calls Try.prog 11 #[.string s] w fun e w' => e = .returned (.string (mk (Wm.encS s.data.toList))) ∧ Below w.heap.size w w' := by
  have hl := (Wm.encI_len (s.data.toList.length : Int)).1
  go_enter Try.func11, Try.ntmps11
  go_wp2_with fail
  refine (appendString_x w.heap.size _ 0 [] s _ (Nat.le_refl _) (World.ownsRow_nil _ _ _ _) hs (by omega)).mono ?_
  rintro e w1 ⟨v1, rfl, hown1, hb1⟩
  have hconv := conv_own (l := Wm.encS s.data.toList) (by simpa using hown1) (by unfold Wm.encS; rw [List.length_append]; omega)
  go_wp2_with fail
  go_ret
  exact ⟨rfl, hb1⟩

theorem Ints_x (v : Value) (zs : List Int) (w : World) (hat : SlAt w v (zs.map (Value.int .i64))) (hz : ∀ z ∈ zs, Wm.isInt z) (hl : (Wm.encL Wm.encI zs).length ≤ 1099511627776) (hn : zs.length ≤ 1099511627776) :
    Calls Try.prog 13 #[v] w fun e w' => e = .returned (.string (mk (Wm.encL Wm.encI zs))) ∧ Below w.heap.size w w' := by
  have hl0 := (Wm.encI_len (zs.length : Int)).1
  go_enter Try.func13, Try.ntmps13
  go_wp2_with fail
  refine (writeInts_x v zs _ hat hz hl hn).mono ?_
  rintro e w1 ⟨v1, rfl, hown1, hb1⟩
  have hconv := conv_own hown1 (by unfold Wm.encL; rw [List.length_append]; omega)
  go_wp2_with fail
  go_ret
  exact ⟨rfl, hb1⟩

theorem Strings_x (v : Value) (ss : List (List UInt8)) (w : World) (hat : SlAt w v (ss.map fun s => Value.string (mk s))) (hl : (Wm.encL Wm.encS ss).length ≤ 1099511627776) (hn : ss.length ≤ 1099511627776) :
    Calls Try.prog 15 #[v] w fun e w' => e = .returned (.string (mk (Wm.encL Wm.encS ss))) ∧ Below w.heap.size w w' := by
  have hl0 := (Wm.encI_len (ss.length : Int)).1
  go_enter Try.func15, Try.ntmps15
  go_wp2_with fail
  refine (writeStrings_x v ss _ hat hl hn).mono ?_
  rintro e w1 ⟨v1, rfl, hown1, hb1⟩
  have hconv := conv_own hown1 (by unfold Wm.encL; rw [List.length_append]; omega)
  go_wp2_with fail
  go_ret
  exact ⟨rfl, hb1⟩

end Go.Proofs.Ytcoebgkkniggeaa
