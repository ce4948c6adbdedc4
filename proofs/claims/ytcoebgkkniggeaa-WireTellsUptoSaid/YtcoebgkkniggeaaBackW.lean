/-
  What was written is read again: the readers at an encoding with a text behind it, and the law WireBack's walk.
-/
import Derived.Test.YtcoebgkkniggeaaSmall
namespace Go.Proofs.Ytcoebgkkniggeaa
open Go.RowKit

theorem cat_toList (l : List UInt8) (s : ByteArray) : (mk l ++ s).data.toList = l ++ s.data.toList := by
  rw [ByteArray.data_append, Array.toList_append]; rfl

theorem ReadInt_back (n : Int) (after : ByteArray) (w : World) (hn : Wm.isInt n) (ha : after.size ≤ 549755813888) :
    Calls Try.prog 17 #[.string (mk (Wm.encI n) ++ after)] w fun e w' => e = .returned (.tuple #[.int .i64 n, .string after, .bool true]) ∧ Below w.heap.size w w' := by
  have hl := (Wm.encI_len n).2
  refine (ReadInt_x _ w (by rw [ByteArray.size_append, mk_size]; omega)).mono ?_
  rintro e w' ⟨he, hb⟩
  rw [cat_toList, Wm.rdI_back n hn] at he
  exact ⟨he, hb⟩

theorem ReadString_back (s after : ByteArray) (w : World) (hs : s.size ≤ 274877906944) (ha : after.size ≤ 549755813888) :
    Calls Try.prog 19 #[.string (mk (Wm.encS s.data.toList) ++ after)] w fun e w' => e = .returned (.tuple #[.string s, .string after, .bool true]) ∧ Below w.heap.size w w' := by
  have hl := (Wm.encI_len (s.data.toList.length : Int)).2
  have hz := size_of s
  refine (ReadString_x _ w (by rw [ByteArray.size_append, mk_size, Wm.encS, List.length_append]; omega)).mono ?_
  rintro e w' ⟨he, hb⟩
  rw [cat_toList, Wm.rdS_back _ (by unfold Wm.top; omega)] at he
  exact ⟨he, hb⟩

theorem ReadInts_back (l : List Int) (after : ByteArray) (w : World) (hl : ∀ z ∈ l, Wm.isInt z) (hn : l.length ≤ 1099511627776) (hs : (Wm.encL Wm.encI l).length ≤ 549755813888) (ha : after.size ≤ 549755813888) :
    Calls Try.prog 21 #[.string (mk (Wm.encL Wm.encI l) ++ after)] w fun e w' => ∃ v, e = .returned (.tuple #[v, .string after, .bool true]) ∧ SlAt w' v (l.map (Value.int .i64)) ∧ Below w.heap.size w w' := by
  refine (ReadInts_x _ w (by rw [ByteArray.size_append, mk_size]; omega)).mono ?_
  rintro e w' ⟨v, he, hown, hb⟩
  rw [cat_toList, Wm.rdL_back (ok := Wm.isInt) Wm.rdI_back l hl (by unfold Wm.top; omega)] at he hown
  exact ⟨v, he, own_at (by simpa [oL] using hown), hb⟩

theorem ReadStrings_back (l : List (List UInt8)) (after : ByteArray) (w : World) (hn : l.length ≤ 1099511627776) (hs : (Wm.encL Wm.encS l).length ≤ 549755813888) (ha : after.size ≤ 549755813888) :
    Calls Try.prog 24 #[.string (mk (Wm.encL Wm.encS l) ++ after)] w fun e w' => ∃ v, e = .returned (.tuple #[v, .string after, .bool true]) ∧ SlAt w' v (l.map vS) ∧ Below w.heap.size w w' := by
  refine (ReadStrings_x _ w (by rw [ByteArray.size_append, mk_size]; omega)).mono ?_
  rintro e w' ⟨v, he, hown, hb⟩
  have hle : ∀ x ∈ l, x.length < Wm.top := by
    intro x hx
    have h1 : x.length ≤ (Wm.encL Wm.encS l).length := by
      unfold Wm.encL
      rw [List.length_append]
      have : x.length ≤ ((l.map Wm.encS).flatten).length := by
        have h2 : (Wm.encS x).length ≤ ((l.map Wm.encS).flatten).length := (List.sublist_flatten_of_mem (List.mem_map_of_mem hx)).length_le
        unfold Wm.encS at h2
        rw [List.length_append] at h2
        have h3 : x.length ≤ (Wm.encI ↑x.length).length + x.length := by omega
        exact Nat.le_trans h3 h2
      omega
    unfold Wm.top
    omega
  rw [cat_toList, Wm.rdL_back (ok := fun x => x.length < Wm.top) (fun x hx => Wm.rdS_back x hx) l hle (by unfold Wm.top; omega)] at he hown
  exact ⟨v, he, own_at (by simpa [oL] using hown), hb⟩

/-- What the laws ask of their arguments: they read as lists, and are not long. -/
structure Small (vl vt : Value) (l : List Int) (t : List (List UInt8)) (w : World) : Prop where
  ints : SlAt w vl (l.map (Value.int .i64))
  strs : SlAt w vt (t.map vS)
  isint : ∀ z ∈ l, Wm.isInt z
  ll : l.length ≤ 2097152
  lt : t.length ≤ 2097152
  le : (Wm.encL Wm.encI l).length ≤ 536870912
  te : (Wm.encL Wm.encS t).length ≤ 536870912

set_option maxHeartbeats 1600000 in
theorem WireBack_x (n : Int) (s : ByteArray) (vl vt : Value) (l : List Int) (t : List (List UInt8)) (after : ByteArray) (w : World) (hn : Wm.isInt n) (hs : s.size ≤ 2097152) (ha : after.size ≤ 2097152) (h : Small vl vt l t w) :
    Calls Try.prog 4 #[.int .i64 n, .string s, vl, vt, .string after] w fun e w' => e = .returned (.bool true) ∧ Below w.heap.size w w' := by
  obtain ⟨hi, hst, hii, hll, hlt, hle, hte⟩ := h
  have hz1 := (Wm.encI_len n).2
  have hz2 := (Wm.encI_len (s.data.toList.length : Int)).2
  have hms1 : (mk (Wm.encI n)).size ≤ 22 := hz1
  have hms2 : (mk (Wm.encS s.data.toList)).size ≤ 4194304 := by rw [mk_size, Wm.encS, List.length_append, ← size_of]; rw [← size_of] at hz2; omega
  have hms3 : (mk (Wm.encL Wm.encI l)).size ≤ 536870912 := hle
  have hms4 : (mk (Wm.encL Wm.encS t)).size ≤ 536870912 := hte
  clear hz1 hz2
  have Hii := Lib.hid hii
  have Hn := Lib.hid hn
  clear hii hn
  go_enter Try.func4, Try.ntmps4
  go_wp2_with fail
  refine (small_x _).mono ?_
  rintro e w1 ⟨rfl, hb1⟩
  go_wp2_with fail
  refine (Int_x n _ Hn.out).mono ?_
  rintro e w2 ⟨rfl, hb2⟩
  go_wp2_with fail
  refine (ReadInt_back n after _ Hn.out (by omega)).mono ?_
  rintro e w3 ⟨rfl, hb3⟩
  go_wp2_with fail
  refine (String_x s _ (by omega)).mono ?_
  rintro e w4 ⟨rfl, hb4⟩
  go_wp2_with fail
  refine (ReadString_back s after _ (by omega) (by omega)).mono ?_
  rintro e w5 ⟨rfl, hb5⟩
  have hb05 : Below w.heap.size w w5 := by
    have z1 := hb1.size; have z2 := hb2.size; have z3 := hb3.size; have z4 := hb4.size
    exact (((hb1.trans (hb2.mono z1)).trans (hb3.mono (by omega))).trans (hb4.mono (by omega))).trans (hb5.mono (by omega))
  clear hb1 hb2 hb3 hb4 hb5
  have hz5 := hb05.size
  go_wp2_with fail
  refine (Ints_x vl l _ (hi.below hb05 (Nat.le_refl _)) Hii.out (by omega) (by omega)).mono ?_
  rintro e w6 ⟨rfl, hb6⟩
  have hz6 := hb6.size
  go_wp2_with fail
  refine (ReadInts_back l after _ Hii.out (by omega) (by omega) (by omega)).mono ?_
  rintro e w7 ⟨v7, rfl, hv7, hb7⟩
  have hz7 := hb7.size
  have hb07 : Below w.heap.size w w7 := (hb05.trans (hb6.mono hz5)).trans (hb7.mono (by omega))
  go_wp2_with fail
  refine (SameInts_x v7 vl l l _ hv7 (hi.below hb07 (Nat.le_refl _)) (by omega) (by omega)).mono ?_
  rintro e w8 ⟨rfl, hb8⟩
  rw [decide_eq_true (rfl : l = l)]
  have hz8 := hb8.size
  have hb08 : Below w.heap.size w w8 := hb07.trans (hb8.mono (by omega))
  go_wp2_with fail
  refine (Strings_x vt t _ (hst.below hb08 (Nat.le_refl _)) (by omega) (by omega)).mono ?_
  rintro e w9 ⟨rfl, hb9⟩
  have hz9 := hb9.size
  go_wp2_with fail
  refine (ReadStrings_back t after _ (by omega) (by omega) (by omega)).mono ?_
  rintro e w10 ⟨v10, rfl, hv10, hb10⟩
  have hz10 := hb10.size
  have hb010 : Below w.heap.size w w10 := (hb08.trans (hb9.mono (by omega))).trans (hb10.mono (by omega))
  go_wp2_with fail
  refine (SameStrings_x v10 vt t t _ hv10 (hst.below hb010 (Nat.le_refl _)) (by omega) (by omega)).mono ?_
  rintro e w11 ⟨rfl, hb11⟩
  rw [decide_eq_true (rfl : t = t)]
  go_wp2
  go_ret
  exact ⟨rfl, hb010.trans (hb11.mono (by omega))⟩

end Go.Proofs.Ytcoebgkkniggeaa
