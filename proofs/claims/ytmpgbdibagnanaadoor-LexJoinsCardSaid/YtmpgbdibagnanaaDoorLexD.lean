/-
  The program's appendQuoted.
-/
import Derived.Test.YtmpgbdibagnanaaDoorLexC
import Derived.Lib.AppendStr
import Derived.Laws.IdiomStrings
import Derived.Laws.BytesString
import Derived.Laws.AppendOwnNone
namespace Go.Proofs.YtmpgbdibagnanaaDoor
open Go.RowKit

def bc (l : List UInt8) : List Value := l.map fun b => Value.int .u8 b.toNat
theorem bc_append (a b : List UInt8) : bc (a ++ b) = bc a ++ bc b := by simp [bc]
theorem bc_length (a : List UInt8) : (bc a).length = a.length := by simp [bc]
theorem info5 : (Tryd.prog.info? 5).map (fun i => (i.zero, i.size, i.bytes)) = some (some (.int .u8 0), 1, 1) := by kernel_rfl

/-- a slice of the call's own that reads as bytes -/
def OwnB (w : World) (B : Nat) (v : Value) (l : List UInt8) : Prop := w.ownsRow B 5 1 v l.length (bc l)
theorem own_nil (w : World) (B : Nat) : OwnB w B (.slice none 0 0) [] := World.ownsRow_nil _ _ _ _
theorem own_push {w : World} {B : Nat} {v : Value} {l : List UInt8} (c : UInt8) (h : w.ownsRow B 5 1 v (l.length + 1) (bc l ++ [.int .u8 (c.toNat : Int)])) : OwnB w B v (l ++ [c]) := by
  unfold OwnB
  rw [bc_append, List.length_append]
  exact h
theorem own_str {w : World} {B : Nat} {v : Value} {l : List UInt8} (s : ByteArray) (h : w.ownsRow B 5 1 v (l.length + s.size) (bc l ++ Lib.strCells s)) : OwnB w B v (l ++ s.data.toList) := by
  unfold OwnB
  rw [bc_append, List.length_append, ← size_of]
  exact h

theorem conv_own {w : World} {B : Nat} {v : Value} {l : List UInt8} (h : OwnB w B v l) : (convert 46 9 v).run Tryd.prog w = .ok (.string (mk l)) w := by
  have hc := fun g => World.ownsRow.cells h (g := g)
  rcases h.2 with ⟨rfl, h0⟩ | ⟨g, cap, cur, rfl, _, hg, _, _, _, htake⟩
  · have : l = [] := List.eq_nil_of_length_eq_zero h0
    subst this
    rw [run_convert_bytes_string w 46 9 5 none 0 0 Tryd.underlying46 Tryd.underlying5 Tryd.underlying9]
    rfl
  · refine run_convert_bytes_back w 46 9 5 ⟨g, 0, none⟩ cap l Tryd.underlying46 Tryd.underlying5 Tryd.underlying9 (fun j hj => ?_)
    exact hc g rfl j _ (by simp [bc, List.getElem?_map, List.getElem?_eq_getElem hj])

def AqRel (B : Nat) (l : List UInt8) (s : ByteArray) (w : World) (b i : Value) (wr : World) : Prop := ∃ k : Nat, k ≤ s.size ∧ i = .int .i64 k ∧ OwnB wr B b (l ++ 34 :: Lx.esc (s.data.toList.take k)) ∧ Below B w wr

set_option maxHeartbeats 1600000 in
theorem appendQuoted_x (B : Nat) (v : Value) (l : List UInt8) (s : ByteArray) (w : World) (hB : B ≤ w.heap.size) (hown : OwnB w B v l) (hs : s.size ≤ 1099511627776) (hl : l.length ≤ 1099511627776) :
    Calls Tryd.prog 33 #[v, .string s] w fun e w' => ∃ v', e = .returned v' ∧ OwnB w' B v' (l ++ Lx.quoted s.data.toList) ∧ Below B w w' := by
  obtain ⟨i0, hi, hz0, hz1, hz2⟩ := info_parts info5
  unfold OwnB at hown
  go_enter Tryd.func33, Tryd.ntmps33
  go_wp2_with (at_builtin; refine wpList_append_own _ rfl (.tmp 6) (.tmp 7) 46 rfl B 5 i0 (.int .u8 0) 1 1 Tryd.underlying46 hi hz0 hz1 hz2 rfl (by decide) _ _ _ rfl (hown.alloc _) ⟨w.heap.size, 0, none⟩ 1 1 [.int .u8 34] rfl rfl ?a1 ?a2 ?a3 ?a4 ?a5 ?_)
  case a1 => exact cell_one_new _ _ _
  case a2 => intro u hu; simp at hu; subst hu; rfl
  case a3 => unfold maxLen; omega
  case a4 => omega
  case a5 => simp; omega
  intro v1 w1 hown1 hgrow1 _
  have hb1 : Below B w w1 := ((Below.refl _ _).alloc hB _).grown hgrow1 (by simp; omega) (fun k hk => (hown.lt k hk).1)
  have ho1 : Hid (OwnB w1 B v1 (l ++ [34])) := own_push 34 hown1
  clear hown1 hgrow1
  go_wp2_with fail
  go_loopw [0, 11] (fun b i wr => AqRel B l s w b i wr) (fun _ i _ => s.size - (intOf i).toNat)
  case atStart => exact ⟨0, Nat.zero_le _, rfl, ho1.out, hb1⟩
  case round =>
    obtain ⟨k, hk, rfl, hor, hbr⟩ := hrel
    have hBr : B ≤ wr.heap.size := by have := hbr.size; omega
    have hel := esc_len (s.data.toList.take k)
    rw [List.length_take, ← size_of] at hel
    have hlen : (l ++ 34 :: Lx.esc (s.data.toList.take k)).length ≤ 3298534883330 := by simp only [List.length_append, List.length_cons]; omega
    clear hel
    by_cases hlt : k < s.size
    · have hsn : ∀ x, (if s[k] == 34 || s[k] == 92 then [92, s[k]] else [s[k]]) = x → (l ++ 34 :: Lx.esc (s.data.toList.take k)) ++ x = l ++ 34 :: Lx.esc (s.data.toList.take (k + 1)) := by
        intro x hx
        rw [take_snoc s k hlt, esc_snoc, hx]
        simp
      have Hsn := Lib.hid hsn
      clear hsn
      generalize hL : l ++ 34 :: Lx.esc (s.data.toList.take k) = L at hor hlen Hsn
      clear hL
      unfold OwnB at hor
      go_wp2_with fail
      refine (lEsc_x s[k] _).mono ?_
      rintro e w2 ⟨rfl, rfl⟩
      cases he : isEsc s[k] with
      | true =>
        have hE := Lib.hid (Hsn.out [92, s[k]] (by rw [show (s[k] == 34 || s[k] == 92) = true from he]; rfl))
        clear he Hsn
        go_wp2_with (at_builtin; refine wpList_append_own _ rfl (.tmp 18) (.tmp 19) 46 rfl B 5 i0 (.int .u8 0) 1 1 Tryd.underlying46 hi hz0 hz1 hz2 rfl (by decide) _ _ _ rfl (hor.alloc _) ⟨wr.heap.size, 0, none⟩ 1 1 [.int .u8 92] rfl rfl ?b1 ?b2 ?b3 ?b4 ?b5 ?_)
        case b1 => exact cell_one_new _ _ _
        case b2 => intro u hu; simp at hu; subst hu; rfl
        case b3 => unfold maxLen; omega
        case b4 => omega
        case b5 => simp; omega
        intro v2 w2 hown2 hgrow2 _
        have hb2 : Below B w w2 := (hbr.alloc hBr _).grown hgrow2 (by simp; omega) (fun k hk => (hor.lt k hk).1)
        have hB2 : B ≤ w2.heap.size := by have := hb2.size; omega
        clear hgrow2
        go_wp2_with (at_builtin; refine wpList_append_own _ rfl (.tmp 21) (.tmp 25) 46 rfl B 5 i0 (.int .u8 0) 1 1 Tryd.underlying46 hi hz0 hz1 hz2 rfl (by decide) _ _ _ rfl (hown2.alloc _) ⟨w2.heap.size, 0, none⟩ 1 1 [.int .u8 (s[k].toNat : Int)] rfl rfl ?b6 ?b7 ?b8 ?b9 ?b10 ?_)
        case b6 => exact cell_one_new _ _ _
        case b7 => intro u hu; simp at hu; subst hu; rfl
        case b8 => unfold maxLen; omega
        case b9 => omega
        case b10 => simp; omega
        intro v3 w3 hown3 hgrow3 _
        have hb3 : Below B w w3 := (hb2.alloc hB2 _).grown hgrow3 (by simp; omega) (fun k hk => (hown2.lt k hk).1)
        have ho3 : Hid (OwnB w3 B v3 (l ++ 34 :: Lx.esc (s.data.toList.take (k + 1)))) := by
          have h1 : OwnB w2 B v2 (L ++ [92]) := own_push 92 hown2
          have h2 : OwnB w3 B v3 (L ++ [92] ++ [s[k]]) := by
            apply own_push
            rw [bc_append, List.length_append, List.append_assoc]
            exact hown3
          show OwnB _ _ _ _
          rw [← hE.out]
          rw [List.append_assoc] at h2
          exact h2
        clear hown3 hgrow3 hown2
        go_wp2_with fail
        go_roundw
        case rel => exact ⟨k + 1, by omega, by go_num, ho3.out, hb3⟩
        case measure => simp [intOf]; omega
      | false =>
        have hE := Lib.hid (Hsn.out [s[k]] (by rw [show (s[k] == 34 || s[k] == 92) = false from he]; rfl))
        clear he Hsn
        go_wp2_with (at_builtin; refine wpList_append_own _ rfl (.tmp 21) (.tmp 25) 46 rfl B 5 i0 (.int .u8 0) 1 1 Tryd.underlying46 hi hz0 hz1 hz2 rfl (by decide) _ _ _ rfl (hor.alloc _) ⟨wr.heap.size, 0, none⟩ 1 1 [.int .u8 (s[k].toNat : Int)] rfl rfl ?b1 ?b2 ?b3 ?b4 ?b5 ?_)
        case b1 => exact cell_one_new _ _ _
        case b2 => intro u hu; simp at hu; subst hu; rfl
        case b3 => unfold maxLen; omega
        case b4 => omega
        case b5 => simp; omega
        intro v3 w3 hown3 hgrow3 _
        have hb3 : Below B w w3 := (hbr.alloc hBr _).grown hgrow3 (by simp; omega) (fun k hk => (hor.lt k hk).1)
        have ho3 : Hid (OwnB w3 B v3 (l ++ 34 :: Lx.esc (s.data.toList.take (k + 1)))) := by
          have h2 : OwnB w3 B v3 (L ++ [s[k]]) := own_push _ hown3
          rw [← hE.out]
          exact h2
        clear hown3 hgrow3
        go_wp2_with fail
        go_roundw
        case rel => exact ⟨k + 1, by omega, by go_num, ho3.out, hb3⟩
        case measure => simp [intOf]; omega
    · have hE : Hid ((l ++ 34 :: Lx.esc (s.data.toList.take k)) ++ [34] = l ++ Lx.quoted s.data.toList) := by
        show _ = _
        rw [take_end s k (by omega)]
        simp [Lx.quoted]
      generalize hL : l ++ 34 :: Lx.esc (s.data.toList.take k) = L at hor hlen hE
      clear hL
      unfold OwnB at hor
      go_wp2_with (at_builtin; refine wpList_append_own _ rfl (.tmp 28) (.tmp 29) 46 rfl B 5 i0 (.int .u8 0) 1 1 Tryd.underlying46 hi hz0 hz1 hz2 rfl (by decide) _ _ _ rfl (hor.alloc _) ⟨wr.heap.size, 0, none⟩ 1 1 [.int .u8 34] rfl rfl ?b1 ?b2 ?b3 ?b4 ?b5 ?_)
      case b1 => exact cell_one_new _ _ _
      case b2 => intro u hu; simp at hu; subst hu; rfl
      case b3 => unfold maxLen; omega
      case b4 => omega
      case b5 => simp; omega
      intro v3 w3 hown3 hgrow3 _
      have hb3 : Below B w w3 := (hbr.alloc hBr _).grown hgrow3 (by simp; omega) (fun k hk => (hor.lt k hk).1)
      have ho3 : Hid (OwnB w3 B v3 (l ++ Lx.quoted s.data.toList)) := by
        have h2 : OwnB w3 B v3 (L ++ [34]) := own_push 34 hown3
        rw [← hE.out]
        exact h2
      clear hown3 hgrow3
      go_wp2_with fail
      go_ret
      exact ⟨v3, rfl, ho3.out, hb3⟩

end Go.Proofs.YtmpgbdibagnanaaDoor
