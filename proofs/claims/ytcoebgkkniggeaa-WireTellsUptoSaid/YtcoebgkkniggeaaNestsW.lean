/-
  Encodings that stand one after the other, and in strings of a list: the law WireNests' walk.
-/
import Derived.Test.YtcoebgkkniggeaaOnlyW
namespace Go.Proofs.Ytcoebgkkniggeaa
open Go.RowKit

theorem mk_append (a b : List UInt8) : mk a ++ mk b = mk (a ++ b) := ByteArray.mk_append_mk a b

/-- the readers at an encoding with a list of bytes behind it -/
theorem RS_at (s r : List UInt8) (w : World) (hs : (Wm.encS s ++ r).length ≤ 1099511627776) :
    Calls Try.prog 19 #[.string (mk (Wm.encS s ++ r))] w fun e w' => e = .returned (.tuple #[.string (mk s), .string (mk r), .bool true]) ∧ Below w.heap.size w w' := by
  refine (ReadString_x (mk _) w hs).mono ?_
  rintro e w' ⟨he, hb⟩
  have hl : s.length ≤ (Wm.encS s ++ r).length := by simp only [Wm.encS, List.length_append]; omega
  rw [mk_toList, Wm.rdS_back _ (by unfold Wm.top; omega)] at he
  exact ⟨he, hb⟩
theorem RI_at (n : Int) (r : List UInt8) (w : World) (hn : Wm.isInt n) (hs : (Wm.encI n ++ r).length ≤ 1099511627776) :
    Calls Try.prog 17 #[.string (mk (Wm.encI n ++ r))] w fun e w' => e = .returned (.tuple #[.int .i64 n, .string (mk r), .bool true]) ∧ Below w.heap.size w w' := by
  refine (ReadInt_x (mk _) w hs).mono ?_
  rintro e w' ⟨he, hb⟩
  rw [mk_toList, Wm.rdI_back _ hn] at he
  exact ⟨he, hb⟩
theorem RLI_at (l : List Int) (r : List UInt8) (w : World) (hl : ∀ z ∈ l, Wm.isInt z) (hs : (Wm.encL Wm.encI l ++ r).length ≤ 1099511627776) :
    Calls Try.prog 21 #[.string (mk (Wm.encL Wm.encI l ++ r))] w fun e w' => ∃ v, e = .returned (.tuple #[v, .string (mk r), .bool true]) ∧ SlAt w' v (l.map (Value.int .i64)) ∧ Below w.heap.size w w' := by
  refine (ReadInts_x (mk _) w hs).mono ?_
  rintro e w' ⟨v, he, hown, hb⟩
  have hn := len_leI l
  rw [List.length_append] at hs
  rw [mk_toList, Wm.rdL_back (ok := Wm.isInt) Wm.rdI_back l hl (by unfold Wm.top; omega)] at he hown
  exact ⟨v, he, own_at (by simpa [oL] using hown), hb⟩
theorem RLS_at (l : List (List UInt8)) (r : List UInt8) (w : World) (hs : (Wm.encL Wm.encS l ++ r).length ≤ 1099511627776) :
    Calls Try.prog 24 #[.string (mk (Wm.encL Wm.encS l ++ r))] w fun e w' => ∃ v, e = .returned (.tuple #[v, .string (mk r), .bool true]) ∧ SlAt w' v (l.map vS) ∧ Below w.heap.size w w' := by
  refine (ReadStrings_x (mk _) w hs).mono ?_
  rintro e w' ⟨v, he, hown, hb⟩
  have hn := len_leS l
  have hx := str_le l
  rw [List.length_append] at hs
  rw [mk_toList, Wm.rdL_back (ok := fun x => x.length < Wm.top) (fun x hx => Wm.rdS_back x hx) l (fun x h => by have := hx x h; unfold Wm.top; omega) (by unfold Wm.top; omega)] at he hown
  exact ⟨v, he, own_at (by simpa [oL] using hown), hb⟩

/-- lists that differ have encodings that differ -/
theorem encLS_inj {a b : List (List UInt8)} (ha : (Wm.encL Wm.encS a).length ≤ 1099511627776) (hb : (Wm.encL Wm.encS b).length ≤ 1099511627776) : Wm.encL Wm.encS a = Wm.encL Wm.encS b ↔ a = b := by
  refine ⟨fun h => ?_, fun h => by rw [h]⟩
  have key : ∀ l : List (List UInt8), (Wm.encL Wm.encS l).length ≤ 1099511627776 → Wm.rdL Wm.rdS (Wm.encL Wm.encS l ++ []) = some (l, []) := by
    intro l hl
    have hn := len_leS l
    have hx := str_le l
    exact Wm.rdL_back (ok := fun x => x.length < Wm.top) (fun x hx => Wm.rdS_back x hx) l (fun x h => by have := hx x h; unfold Wm.top; omega) (by unfold Wm.top; omega) []
  have h1 := key a ha
  rw [h, key b hb] at h1
  simpa using h1.symm

theorem slat_cell2 {w : World} {v : Value} {x y : Value} (h : SlAt w v [x, y]) : ∃ b off cap, v = .slice (some ⟨b, off, none⟩) 2 cap ∧ b < w.heap.size ∧ w.cell? ⟨b, off, none⟩ = some x ∧ w.cell? ⟨b, off + 1, none⟩ = some y := by
  obtain ⟨a, cap, rfl, h⟩ := h
  obtain ⟨b, off, rfl, hb, h0⟩ := h 0 x rfl
  obtain ⟨b', off', e, _, h1⟩ := h 1 y rfl
  simp at e
  obtain ⟨rfl, rfl⟩ := e
  exact ⟨b, off, cap, rfl, hb, h0, h1⟩

set_option maxHeartbeats 3200000 in
theorem WireNests_x (n : Int) (s : ByteArray) (vl vt vo : Value) (l : List Int) (t o : List (List UInt8)) (w : World) (hn : Wm.isInt n) (hs : s.size ≤ 2097152) (h : Small vl vt l t w)
    (ho : SlAt w vo (o.map vS)) (hol : o.length ≤ 2097152) (hoe : (Wm.encL Wm.encS o).length ≤ 536870912) :
    Calls Try.prog 7 #[.int .i64 n, .string s, vl, vt, vo] w fun e w' => e = .returned (.bool true) ∧ Below w.heap.size w w' := by
  obtain ⟨hi, hst, hii, hll, hlt, hle, hte⟩ := h
  have hz1 := (Wm.encI_len n).2
  have hz2 := (Wm.encI_len (s.data.toList.length : Int)).2
  have m1 : (mk (Wm.encI n)).size ≤ 22 := hz1
  have hS : (Wm.encS s.data.toList).length ≤ 4194304 := by rw [Wm.encS, List.length_append, ← size_of]; rw [← size_of] at hz2; omega
  have m2 : (mk (Wm.encS s.data.toList)).size ≤ 4194304 := hS
  have m3 : (mk (Wm.encL Wm.encI l)).size ≤ 536870912 := hle
  have m4 : (mk (Wm.encL Wm.encS t)).size ≤ 536870912 := hte
  obtain ⟨A, hA⟩ : ∃ A, A = Wm.encL Wm.encI l ++ Wm.encI n := ⟨_, rfl⟩
  obtain ⟨C, hC⟩ : ∃ C, C = Wm.encL Wm.encS t ++ Wm.encS s.data.toList := ⟨_, rfl⟩
  have lA : A.length ≤ 1073741824 := by rw [hA, List.length_append]; omega
  have lC : C.length ≤ 1073741824 := by rw [hC, List.length_append]; omega
  have lAC : (Wm.encL Wm.encS [A, C]).length ≤ 4294967296 := by
    have k1 := (Wm.encI_len (A.length : Int)).2
    have k2 := (Wm.encI_len (C.length : Int)).2
    have k3 := (Wm.encI_len (([A, C] : List (List UInt8)).length : Int)).2
    unfold Wm.encL
    rw [List.length_append]
    simp only [List.map_cons, List.map_nil, List.flatten_cons, List.flatten_nil, List.append_nil, List.length_append, Wm.encS]
    omega
  have HA := Lib.hid hA
  have HC := Lib.hid hC
  have Hii := Lib.hid hii
  have Hn := Lib.hid hn
  have hmt : (mk []).toList = [] := toList_mk []
  clear hz1 hz2 hA hC hii hn
  go_enter Try.func7, Try.ntmps7
  go_wp2_with fail
  refine (small_x _).mono ?_
  rintro e w1 ⟨rfl, hb1⟩
  go_wp2_with fail
  refine (Ints_x vl l _ (hi.below hb1 (Nat.le_refl _)) Hii.out (by omega) (by omega)).mono ?_
  rintro e w2 ⟨rfl, hb2⟩
  have c2 := chain hb1 hb2
  go_wp2_with fail
  refine (Int_x n _ Hn.out).mono ?_
  rintro e w3 ⟨rfl, hb3⟩
  have c3 := chain c2 hb3
  go_wp2_with fail
  refine (Strings_x vt t _ (hst.below c3 (Nat.le_refl _)) (by omega) (by omega)).mono ?_
  rintro e w4 ⟨rfl, hb4⟩
  have c4 := chain c3 hb4
  go_wp2_with fail
  refine (String_x s _ (by omega)).mono ?_
  rintro e w5 ⟨rfl, hb5⟩
  have c5 := chain c4 hb5
  clear hb1 hb2 hb3 hb4 hb5 c2 c3 c4
  go_wp2_with fail
  rw [mk_append, mk_append, ← HA.out, ← HC.out]
  have sAC := slat_two w5 (vS A) (vS C) 9
  refine (Strings_x _ [A, C] _ sAC (by omega) (by simp)).mono ?_
  rintro e w6 ⟨rfl, hb6⟩
  have c6 : Below w.heap.size w w6 := chain (c5.alloc c5.size _) hb6
  clear hb6 sAC
  go_wp2_with fail
  rw [← List.append_nil (Wm.encL Wm.encS [A, C])]
  refine (RLS_at [A, C] [] _ (by rw [List.append_nil]; omega)).mono ?_
  rintro e w7 ⟨v7, rfl, hv7, hb7⟩
  have c7 := chain c6 hb7
  obtain ⟨b, off, cap, rfl, hb, hd0, hd1⟩ := slat_cell2 hv7
  unfold vS at hd0 hd1
  clear hb7 c6 hv7
  go_wp2_with fail
  rw [HA.out]
  refine (RLI_at l (Wm.encI n) _ Hii.out (by rw [← HA.out]; omega)).mono ?_
  rintro e w8 ⟨v8, rfl, hv8, hb8⟩
  have c8 := chain c7 hb8
  have hd1' := below_cell hb8 hb hd1
  have hblt : b < w8.heap.size := by have := hb8.size; omega
  clear hd0 hd1 hb8 c7
  go_wp2_with fail
  rw [← List.append_nil (Wm.encI n)]
  refine (RI_at n [] _ Hn.out (by rw [List.append_nil, ← mk_size]; omega)).mono ?_
  rintro e w9 ⟨rfl, hb9⟩
  have c9 := chain c8 hb9
  have hd2 := below_cell hb9 hblt hd1'
  have hblt2 : b < w9.heap.size := by have := hb9.size; omega
  have hv9 := hv8.below hb9 (Nat.le_refl _)
  clear hd1' hb9 c8 hv8
  go_wp2_with fail
  refine (SameInts_x v8 vl l l _ hv9 (hi.below c9 (Nat.le_refl _)) (by omega) (by omega)).mono ?_
  rintro e w10 ⟨rfl, hb10⟩
  rw [decide_eq_true (rfl : l = l)]
  have c10 := chain c9 hb10
  have hd3 := below_cell hb10 hblt2 hd2
  clear hd2 hb10 c9 hv9
  go_wp2_with fail
  rw [HC.out]
  refine (RLS_at t (Wm.encS s.data.toList) _ (by rw [← HC.out]; omega)).mono ?_
  rintro e w11 ⟨v11, rfl, hv11, hb11⟩
  have c11 := chain c10 hb11
  clear hd3 hb11 c10
  go_wp2_with fail
  rw [← List.append_nil (Wm.encS s.data.toList)]
  refine (RS_at s.data.toList [] _ (by rw [List.append_nil]; omega)).mono ?_
  rintro e w12 ⟨rfl, hb12⟩
  rw [mk_of]
  have c12 := chain c11 hb12
  have hv12 := hv11.below hb12 (Nat.le_refl _)
  clear hb12 c11 hv11
  go_wp2_with fail
  refine (SameStrings_x v11 vt t t _ hv12 (hst.below c12 (Nat.le_refl _)) (by omega) (by omega)).mono ?_
  rintro e w13 ⟨rfl, hb13⟩
  rw [decide_eq_true (rfl : t = t)]
  have c13 := chain c12 hb13
  clear hb13 c12 hv12
  go_wp2_with fail
  refine (Strings_x vt t _ (hst.below c13 (Nat.le_refl _)) (by omega) (by omega)).mono ?_
  rintro e w14 ⟨rfl, hb14⟩
  have c14 := chain c13 hb14
  clear hb14 c13
  go_wp2_with fail
  refine (Strings_x vo o _ (ho.below c14 (Nat.le_refl _)) (by omega) (by omega)).mono ?_
  rintro e w15 ⟨rfl, hb15⟩
  have c15 := chain c14 hb15
  clear hb15 c14
  go_wp2_with fail
  refine (SameStrings_x vt vo t o _ (hst.below c15 (Nat.le_refl _)) (ho.below c15 (Nat.le_refl _)) (by omega) (by omega)).mono ?_
  rintro e w16 ⟨rfl, hb16⟩
  have c16 := chain c15 hb16
  have hinj := encLS_inj (a := t) (b := o) (by omega) (by omega)
  by_cases hto : t = o
  · have hq : ((mk (Wm.encL Wm.encS t)).toList == (mk (Wm.encL Wm.encS o)).toList) = true := by rw [beq_iff_eq, toList_mk, toList_mk, hto]
    rw [decide_eq_true hto]
    clear hto hinj hb16 c15
    go_wp2
    go_ret
    exact ⟨rfl, c16⟩
  · have hq : ((mk (Wm.encL Wm.encS t)).toList == (mk (Wm.encL Wm.encS o)).toList) = false := by rw [beq_eq_false_iff_ne, toList_mk, toList_mk]; exact fun e => hto (hinj.1 e)
    rw [decide_eq_false hto]
    clear hto hinj hb16 c15
    go_wp2
    go_ret
    exact ⟨rfl, c16⟩

end Go.Proofs.Ytcoebgkkniggeaa
