/-
  allongeref01.SameInts and SameStrings: whether two lists are equal.
-/
import Derived.Test.YtemldlhhlneleaaDoorWiRef4
import Derived.Test.YtemldlhhlneleaaDoorWiEnc
namespace Go.Proofs.YtemldlhhlneleaaDoor.Wi
open Go.RowKit


theorem same_step {α : Type} {xs ys : List α} {k : Nat} {x y : α} (h : xs.take k = ys.take k) (hx : xs[k]? = some x) (hy : ys[k]? = some y) (e : x = y) : xs.take (k + 1) = ys.take (k + 1) := by
  rw [List.take_add_one, List.take_add_one, h, hx, hy, e]
theorem same_no {α : Type} {xs ys : List α} {k : Nat} {x y : α} (hx : xs[k]? = some x) (hy : ys[k]? = some y) (e : x ≠ y) : xs ≠ ys := by
  intro h
  subst h
  rw [hx] at hy
  exact e (by simpa using hy)
theorem same_all {α : Type} {xs ys : List α} {k : Nat} (h : xs.take k = ys.take k) (hx : k = xs.length) (hy : xs.length = ys.length) : xs = ys := by
  rw [List.take_of_length_le (by omega), List.take_of_length_le (by omega)] at h
  exact h

def SRel {α : Type} (xs ys : List α) (w : World) (i : Value) (wr : World) : Prop := ∃ k : Nat, k ≤ xs.length ∧ i = .int .i64 k ∧ xs.take k = ys.take k ∧ Below w.heap.size w wr

def BPost (b : Bool) (w : World) (e : Ending) (w' : World) : Prop := e = .returned (.bool b) ∧ Below w.heap.size w w'

theorem toList_mk (l : List UInt8) : (mk l).toList = l := ByteArray.toList_mk l

def vS (t : List UInt8) : Value := .string (mk t)
set_option maxHeartbeats 1600000 in
theorem SameStrings_x (a b : Value) (xs ys : List (List UInt8)) (w : World) (ha : SlAt w a (xs.map vS)) (hb : SlAt w b (ys.map vS)) (hn : xs.length ≤ 1099511627776) (_hm : ys.length ≤ 1099511627776) :
    Calls Tryd.prog 24 #[a, b] w fun e w' => BPost (decide (xs = ys)) w e w' := by
  obtain ⟨aa, ca, rfl, hca⟩ := ha
  obtain ⟨ab, cb, rfl, hcb⟩ := hb
  rw [List.length_map, List.length_map]
  by_cases hlen : xs.length = ys.length
  · have hbne : ((xs.length : Int) != (ys.length : Int)) = false := by simp [hlen]
    have Hlen := Lib.hid hlen
    clear hlen
    go_enter Tryd.func24, Tryd.ntmps24
    go_wp2_with fail
    go_loopw [5] (fun i wr => SRel xs ys w i wr) (fun i _ => xs.length - (intOf i).toNat)
    case atStart => exact ⟨0, Nat.zero_le _, rfl, by simp, Below.refl _ _⟩
    case round =>
      obtain ⟨k, hk, rfl, ht, hbl⟩ := hrel
      by_cases hlt : k < xs.length
      · have hlt2 : k < ys.length := by have := Hlen.out; omega
        have hx : xs[k]? = some xs[k] := List.getElem?_eq_getElem hlt
        have hy : ys[k]? = some ys[k] := List.getElem?_eq_getElem hlt2
        obtain ⟨x, ex⟩ : ∃ x, x = xs[k] := ⟨_, rfl⟩
        obtain ⟨y, ey⟩ : ∃ y, y = ys[k] := ⟨_, rfl⟩
        rw [← ex] at hx
        rw [← ey] at hy
        obtain ⟨b1, o1, rfl, hb1, hc1⟩ := hca k (vS x) (by simp [List.getElem?_map, hx])
        obtain ⟨b2, o2, rfl, hb2, hc2⟩ := hcb k (vS y) (by simp [List.getElem?_map, hy])
        have hr1 := (hbl.cell (p := ⟨b1, o1 + k, none⟩) hb1).trans hc1
        have hr2 := (hbl.cell (p := ⟨b2, o2 + k, none⟩) hb2).trans hc2
        unfold vS at hr1 hr2
        clear hc1 hc2 hca hcb ex ey
        by_cases hxy : x = y
        · have hb0 : ((mk x).toList == (mk y).toList) = true := by simp [hxy]
          have Hs := Lib.hid (same_step ht hx hy hxy)
          clear ht hx hy hxy
          go_wp2
          go_region
          all_goals go_wp2
          all_goals go_roundw
          case rel => exact ⟨k + 1, by omega, rfl, Hs.out, by repeat (first | exact hbl | apply Below.drew)⟩
          case measure => simp [intOf]; omega
        · have hb0 : ((mk x).toList == (mk y).toList) = false := by rw [beq_eq_false_iff_ne, toList_mk, toList_mk]; exact hxy
          have Hs := Lib.hid (same_no hx hy hxy)
          clear ht hx hy hxy
          go_wp2
          go_region
          all_goals go_wp2
          all_goals go_ret
          all_goals exact ⟨by rw [decide_eq_false Hs.out]; rfl, by repeat (first | exact hbl | apply Below.drew)⟩
      · have hs := Lib.hid (same_all ht (by omega) Hlen.out)
        clear ht
        go_wp2
        go_ret
        exact ⟨by rw [decide_eq_true hs.out]; rfl, hbl⟩
  · have hbne : ((xs.length : Int) != (ys.length : Int)) = true := by rw [bne_iff_ne]; omega
    have hne : Hid (xs ≠ ys) := fun h => hlen (by rw [h])
    clear hlen
    go_enter Tryd.func24, Tryd.ntmps24
    go_wp2
    go_ret
    exact ⟨by rw [decide_eq_false hne.out]; rfl, Below.refl _ _⟩


end Go.Proofs.YtemldlhhlneleaaDoor.Wi
