/-
  Small words for the walks of layer 2: strings as lists of bytes.
-/
import Derived.Test.YtmpgbdibagnanaaDoorLexPlace
import Derived.Test.YtmpgbdibagnanaaDoorProg
import Derived.WalkKit
import Derived.WalkSpells
import Derived.WalkLawsBesides
import Derived.Lib.Hide
import Derived.Deep.DeepCutAuto
namespace Go.Proofs.YtmpgbdibagnanaaDoor
open Go.RowKit

/-- a list of bytes as a string -/
def mk (l : List UInt8) : ByteArray := ⟨l.toArray⟩
theorem mk_toList (l : List UInt8) : (mk l).data.toList = l := rfl
theorem mk_of (s : ByteArray) : mk s.data.toList = s := rfl
theorem mk_size (l : List UInt8) : (mk l).size = l.length := rfl
theorem toList_mk (l : List UInt8) : (mk l).toList = l := ByteArray.toList_mk l
theorem size_of (s : ByteArray) : s.size = s.data.toList.length := by rw [Array.length_toList]; rfl
theorem mk_append (a b : List UInt8) : mk a ++ mk b = mk (a ++ b) := ByteArray.mk_append_mk a b
theorem drop_cons (s : ByteArray) (k : Nat) (h : k < s.size) : s.data.toList.drop k = s[k] :: s.data.toList.drop (k + 1) := by
  have hl : k < s.data.toList.length := by rw [← size_of]; exact h
  rw [List.drop_eq_getElem_cons hl]
  rfl
theorem get_of (s : ByteArray) (k : Nat) (h : k < s.size) : s.data.toList[k]? = some s[k] := by
  have hl : k < s.data.toList.length := by rw [← size_of]; exact h
  rw [List.getElem?_eq_getElem hl]
  rfl
theorem take_snoc (s : ByteArray) (k : Nat) (h : k < s.size) : s.data.toList.take (k + 1) = s.data.toList.take k ++ [s[k]] := by
  rw [List.take_add_one, get_of s k h]
  rfl
theorem take_end (s : ByteArray) (k : Nat) (h : s.size ≤ k) : s.data.toList.take k = s.data.toList := List.take_of_length_le (by rw [← size_of]; exact h)
theorem drop_end (s : ByteArray) : s.data.toList.drop s.size = [] := by rw [size_of, List.drop_length]
theorem extract_mk (s : ByteArray) (a b : Nat) : s.extract a b = mk ((s.data.toList.drop a).take (b - a)) := by
  apply ByteArray.ext
  rw [ByteArray.data_extract]
  unfold mk
  apply Array.ext'
  rw [Array.toList_extract]
theorem one_byte (s : ByteArray) (k : Nat) (h : k < s.size) : s.extract k (k + 1) = mk [s[k]] := by
  rw [extract_mk, drop_cons s k h, Nat.add_sub_cancel_left]
  simp

theorem chain {W a b : World} (h : Below W.heap.size W a) (k : Below a.heap.size a b) : Below W.heap.size W b := h.trans (k.mono h.size)

end Go.Proofs.YtmpgbdibagnanaaDoor
