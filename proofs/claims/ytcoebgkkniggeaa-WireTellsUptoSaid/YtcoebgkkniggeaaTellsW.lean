/-
  Every call returns what the reference returns: the law WireTells' walk.
-/
import Derived.Test.YtcoebgkkniggeaaRef4
namespace Go.Proofs.Ytcoebgkkniggeaa
open Go.RowKit

theorem oLI_le (s : ByteArray) (hs : s.size ≤ 1048576) : (oL (Wm.rdL Wm.rdI s.data.toList)).length ≤ 1099511627776 := by
  rcases vLI s with h | ⟨l, r, h, ⟨_, l1, _⟩, _⟩
  · rw [h]; simp [oL]
  · rw [h]
    have := len_leI l
    rw [← mk_size] at this
    simp only [oL, Option.map_some, Option.getD_some]
    omega
theorem oLS_le (s : ByteArray) (hs : s.size ≤ 1048576) : (oL (Wm.rdL Wm.rdS s.data.toList)).length ≤ 1099511627776 := by
  rcases vLS s with h | ⟨l, r, h, ⟨_, l1, _⟩, _⟩
  · rw [h]; simp [oL]
  · rw [h]
    have := len_leS l
    rw [← mk_size] at this
    simp only [oL, Option.map_some, Option.getD_some]
    omega

set_option maxHeartbeats 6400000 in
set_option maxRecDepth 100000 in
theorem WireTells_x (n : Int) (s : ByteArray) (vl vt : Value) (l : List Int) (t : List (List UInt8)) (x : ByteArray) (w : World) (hn : Wm.isInt n) (hs : s.size ≤ 1048576) (hx : x.size ≤ 1048576) (h : Small vl vt l t w) :
    Calls Try.prog 3 #[.int .i64 n, .string s, vl, vt, .string x] w fun e w' => e = .returned (.bool true) ∧ Below w.heap.size w w' := by
  obtain ⟨hi, hst, hii, hll, hlt, hle, hte⟩ := h
  have HLI := Lib.hid (oLI_le x hx)
  have HLS := Lib.hid (oLS_le x hx)
  have Hii := Lib.hid hii
  have Hn := Lib.hid hn
  clear hii hn
  go_enter Try.func3, Try.ntmps3
  go_wp2_with fail
  refine (small_x _).mono ?_
  rintro e w1 ⟨rfl, c1⟩
  go_wp2_with fail
  refine (Int_x n _ Hn.out).mono ?_
  rintro e w2 ⟨rfl, hb2⟩
  have c2 := chain c1 hb2
  clear hb2 c1
  go_wp2_with fail
  refine (RInt_x n _ Hn.out).mono ?_
  rintro e w3 ⟨rfl, rfl⟩
  go_wp2_with fail
  refine (String_x s _ (by omega)).mono ?_
  rintro e w4 ⟨rfl, hb4⟩
  have c4 := chain c2 hb4
  clear hb4 c2
  go_wp2_with fail
  refine (RString_x s _ (by omega)).mono ?_
  rintro e w5 ⟨rfl, rfl⟩
  go_wp2_with fail
  refine (Ints_x vl l _ (hi.below c4 (Nat.le_refl _)) Hii.out (by omega) (by omega)).mono ?_
  rintro e w6 ⟨rfl, hb6⟩
  have c6 := chain c4 hb6
  clear hb6 c4
  go_wp2_with fail
  refine (RInts_x vl l _ (hi.below c6 (Nat.le_refl _)) Hii.out (by omega) (by omega)).mono ?_
  rintro e w7 ⟨rfl, rfl⟩
  go_wp2_with fail
  refine (Strings_x vt t _ (hst.below c6 (Nat.le_refl _)) (by omega) (by omega)).mono ?_
  rintro e w8 ⟨rfl, hb8⟩
  have c8 := chain c6 hb8
  clear hb8 c6
  go_wp2_with fail
  refine (RStrings_x vt t _ (hst.below c8 (Nat.le_refl _)) (by omega) (by omega)).mono ?_
  rintro e w9 ⟨rfl, rfl⟩
  go_wp2_with fail
  refine (ReadInt_x x _ (by omega)).mono ?_
  rintro e w10 ⟨rfl, hb10⟩
  have c10 := chain c8 hb10
  clear hb10 c8
  rw [tI_eq]
  go_wp2_with fail
  refine (RReadInt_x x _ (by omega)).mono ?_
  rintro e w11 ⟨rfl, hb11⟩
  have c11 := chain c10 hb11
  clear hb11 c10
  rw [tI_eq]
  generalize Wm.rdI x.data.toList = o1
  go_wp2_with fail
  refine (ReadString_x x _ (by omega)).mono ?_
  rintro e w12 ⟨rfl, hb12⟩
  have c12 := chain c11 hb12
  clear hb12 c11
  rw [tS_eq]
  go_wp2_with fail
  refine (RReadString_x x _ (by omega)).mono ?_
  rintro e w13 ⟨rfl, hb13⟩
  have c13 := chain c12 hb13
  clear hb13 c12
  rw [tS_eq]
  generalize Wm.rdS x.data.toList = o2
  go_wp2_with fail
  refine (ReadInts_x x _ (by omega)).mono ?_
  rintro e w14 ⟨v14, rfl, hown14, hb14⟩
  have c14 := chain c13 hb14
  clear hb14 c13
  go_wp2_with fail
  refine (RReadInts_x x _ (by omega)).mono ?_
  rintro e w15 ⟨v15, rfl, hown15, hb15⟩
  have c15 := chain c14 hb15
  have hown14' := below_own hown14 hb15 (Nat.le_refl _)
  clear hb15 c14 hown14
  generalize Wm.rdL Wm.rdI x.data.toList = o3 at HLI hown14' hown15 ⊢
  have hs14 := own_at (xs := (oL o3).map (Value.int .i64)) (by simpa using hown14')
  have hs15 := own_at (xs := (oL o3).map (Value.int .i64)) (by simpa using hown15)
  clear hown14' hown15
  go_wp2_with fail
  refine (SameInts_x v14 v15 (oL o3) (oL o3) _ hs14 hs15 HLI.out HLI.out).mono ?_
  rintro e w16 ⟨rfl, hb16⟩
  rw [decide_eq_true (rfl : oL o3 = oL o3)]
  have c16 := chain c15 hb16
  clear hb16 c15 hs14 hs15
  go_wp2_with fail
  refine (ReadStrings_x x _ (by omega)).mono ?_
  rintro e w17 ⟨v17, rfl, hown17, hb17⟩
  have c17 := chain c16 hb17
  clear hb17 c16
  go_wp2_with fail
  refine (RReadStrings_x x _ (by omega)).mono ?_
  rintro e w18 ⟨v18, rfl, hown18, hb18⟩
  have c18 := chain c17 hb18
  have hown17' := below_own hown17 hb18 (Nat.le_refl _)
  clear hb18 c17 hown17
  generalize Wm.rdL Wm.rdS x.data.toList = o4 at HLS hown17' hown18 ⊢
  have hs17 := own_at (xs := (oL o4).map vS) (by simpa using hown17')
  have hs18 := own_at (xs := (oL o4).map vS) (by simpa using hown18)
  clear hown17' hown18
  go_wp2_with fail
  refine (SameStrings_x v17 v18 (oL o4) (oL o4) _ hs17 hs18 HLS.out HLS.out).mono ?_
  rintro e w19 ⟨rfl, hb19⟩
  rw [decide_eq_true (rfl : oL o4 = oL o4)]
  have c19 := chain c18 hb19
  clear hb19 c18 hs17 hs18
  go_wp2
  go_ret
  exact ⟨rfl, c19⟩

end Go.Proofs.Ytcoebgkkniggeaa
