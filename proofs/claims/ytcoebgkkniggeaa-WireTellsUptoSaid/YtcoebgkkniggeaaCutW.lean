/-
  What is cut off is refused: the law WireCut's walk.
-/
import Derived.Test.YtcoebgkkniggeaaBackW
namespace Go.Proofs.Ytcoebgkkniggeaa
open Go.RowKit

theorem cut_list (l : List UInt8) (k : Nat) : ((mk l).extract 0 k).data.toList = l.take k := by rw [extract_to, mk_toList]
theorem cut_size (l : List UInt8) (k : Nat) : ((mk l).extract 0 k).size ≤ l.length := by rw [extract_to, mk_size, List.length_take]; omega

theorem rdS_cut (s : List UInt8) (hs : s.length < Wm.top) (k : Nat) (hk : k < (Wm.encS s).length) : Wm.rdS ((Wm.encS s).take k) = none :=
  Wm.cut (ok := fun x => x.length < Wm.top) (fun x hx => Wm.rdS_back x hx) (fun t x r h => Wm.rdS_only t x r h) s hs k hk
theorem rdI_cut (n : Int) (hn : Wm.isInt n) (k : Nat) (hk : k < (Wm.encI n).length) : Wm.rdI ((Wm.encI n).take k) = none :=
  Wm.cut (ok := Wm.isInt) Wm.rdI_back (fun t x r h => Wm.rdI_only t x r h) n hn k hk
theorem rdLI_cut (l : List Int) (hl : ∀ z ∈ l, Wm.isInt z) (hn : l.length < Wm.top) (k : Nat) (hk : k < (Wm.encL Wm.encI l).length) : Wm.rdL Wm.rdI ((Wm.encL Wm.encI l).take k) = none :=
  Wm.cut (ok := fun l => l.length < Wm.top ∧ ∀ z ∈ l, Wm.isInt z) (fun x hx => Wm.rdL_back Wm.rdI_back x hx.2 hx.1) (fun t x r h => Wm.rdL_only (fun t x r h => Wm.rdI_only t x r h) t x r h) l ⟨hn, hl⟩ k hk
theorem rdLS_cut (l : List (List UInt8)) (hl : ∀ z ∈ l, z.length < Wm.top) (hn : l.length < Wm.top) (k : Nat) (hk : k < (Wm.encL Wm.encS l).length) : Wm.rdL Wm.rdS ((Wm.encL Wm.encS l).take k) = none :=
  Wm.cut (ok := fun l => l.length < Wm.top ∧ ∀ z ∈ l, z.length < Wm.top) (fun x hx => Wm.rdL_back (ok := fun z => z.length < Wm.top) (fun z hz => Wm.rdS_back z hz) x hx.2 hx.1) (fun t x r h => Wm.rdL_only (fun t x r h => Wm.rdS_only t x r h) t x r h) l ⟨hn, hl⟩ k hk

theorem ReadInt_cut (n : Int) (k : Nat) (w : World) (hn : Wm.isInt n) (hk : k < (mk (Wm.encI n)).size) :
    Calls Try.prog 17 #[.string ((mk (Wm.encI n)).extract 0 k)] w fun e w' => e = .returned (.tuple #[.int .i64 0, .string ⟨#[]⟩, .bool false]) ∧ Below w.heap.size w w' := by
  have hl := (Wm.encI_len n).2
  refine (ReadInt_x _ w (Nat.le_trans (cut_size _ _) (by omega))).mono ?_
  rintro e w' ⟨he, hb⟩
  rw [cut_list, rdI_cut n hn k hk] at he
  exact ⟨he, hb⟩

theorem ReadString_cut (s : ByteArray) (k : Nat) (w : World) (hs : s.size ≤ 274877906944) (hk : k < (mk (Wm.encS s.data.toList)).size) :
    Calls Try.prog 19 #[.string ((mk (Wm.encS s.data.toList)).extract 0 k)] w fun e w' => e = .returned (.tuple #[.string ⟨#[]⟩, .string ⟨#[]⟩, .bool false]) ∧ Below w.heap.size w w' := by
  have hl := (Wm.encI_len (s.data.toList.length : Int)).2
  have hz := size_of s
  refine (ReadString_x _ w (Nat.le_trans (cut_size _ _) (by rw [Wm.encS, List.length_append]; omega))).mono ?_
  rintro e w' ⟨he, hb⟩
  rw [cut_list, rdS_cut _ (by unfold Wm.top; omega) k hk] at he
  exact ⟨he, hb⟩

theorem ReadInts_cut (l : List Int) (k : Nat) (w : World) (hl : ∀ z ∈ l, Wm.isInt z) (hn : l.length ≤ 1099511627776) (hs : (Wm.encL Wm.encI l).length ≤ 549755813888) (hk : k < (mk (Wm.encL Wm.encI l)).size) :
    Calls Try.prog 21 #[.string ((mk (Wm.encL Wm.encI l)).extract 0 k)] w fun e w' => ∃ v, e = .returned (.tuple #[v, .string ⟨#[]⟩, .bool false]) ∧ Below w.heap.size w w' := by
  refine (ReadInts_x _ w (Nat.le_trans (cut_size _ _) (by omega))).mono ?_
  rintro e w' ⟨v, he, hown, hb⟩
  rw [cut_list, rdLI_cut l hl (by unfold Wm.top; omega) k hk] at he
  exact ⟨v, he, hb⟩

/-- no string of a list is longer than the list's encoding -/
theorem str_le (l : List (List UInt8)) : ∀ x ∈ l, x.length ≤ (Wm.encL Wm.encS l).length := by
  intro x hx
  unfold Wm.encL
  rw [List.length_append]
  have : x.length ≤ ((l.map Wm.encS).flatten).length := by
    have h2 : (Wm.encS x).length ≤ ((l.map Wm.encS).flatten).length := (List.sublist_flatten_of_mem (List.mem_map_of_mem hx)).length_le
    unfold Wm.encS at h2
    rw [List.length_append] at h2
    have h3 : x.length ≤ (Wm.encI ↑x.length).length + x.length := by omega
    exact Nat.le_trans h3 h2
  omega

theorem ReadStrings_cut (l : List (List UInt8)) (k : Nat) (w : World) (hn : l.length ≤ 1099511627776) (hs : (Wm.encL Wm.encS l).length ≤ 549755813888) (hk : k < (mk (Wm.encL Wm.encS l)).size) :
    Calls Try.prog 24 #[.string ((mk (Wm.encL Wm.encS l)).extract 0 k)] w fun e w' => ∃ v, e = .returned (.tuple #[v, .string ⟨#[]⟩, .bool false]) ∧ Below w.heap.size w w' := by
  refine (ReadStrings_x _ w (Nat.le_trans (cut_size _ _) (by omega))).mono ?_
  rintro e w' ⟨v, he, hown, hb⟩
  rw [cut_list, rdLS_cut l (fun x hx => by have := str_le l x hx; unfold Wm.top; omega) (by unfold Wm.top; omega) k hk] at he
  exact ⟨v, he, hb⟩

theorem chain {W a b : World} (h : Below W.heap.size W a) (k : Below a.heap.size a b) : Below W.heap.size W b := h.trans (k.mono h.size)

theorem mod_lt {a : Int} {n : Nat} (hn : 1 ≤ n) : (a % (n : Int)).toNat < n := by
  have h1 := Int.emod_lt_of_pos a (show (0 : Int) < (n : Int) by omega)
  have h2 := Int.emod_nonneg a (show (n : Int) ≠ 0 by omega)
  omega

set_option maxHeartbeats 1600000 in
theorem WireCut_x (n : Int) (s : ByteArray) (vl vt : Value) (l : List Int) (t : List (List UInt8)) (a : Int) (w : World) (hn : Wm.isInt n) (hs : s.size ≤ 2097152) (h : Small vl vt l t w) (ha0 : 0 ≤ a) (ha1 : a ≤ 65535) :
    Calls Try.prog 6 #[.int .i64 n, .string s, vl, vt, .int .u16 a] w fun e w' => e = .returned (.bool true) ∧ Below w.heap.size w w' := by
  obtain ⟨hi, hst, hii, hll, hlt, hle, hte⟩ := h
  have hz1 := Wm.encI_len n
  have hz2 := Wm.encI_len (s.data.toList.length : Int)
  have hz3 := Wm.encI_len (l.length : Int)
  have hz4 := Wm.encI_len (t.length : Int)
  have hms1 : 1 ≤ (mk (Wm.encI n)).size ∧ (mk (Wm.encI n)).size ≤ 22 := by rw [mk_size]; omega
  have hms2 : 1 ≤ (mk (Wm.encS s.data.toList)).size ∧ (mk (Wm.encS s.data.toList)).size ≤ 4194304 := by rw [mk_size, Wm.encS, List.length_append, ← size_of]; rw [← size_of] at hz2; omega
  have hms3 : 1 ≤ (mk (Wm.encL Wm.encI l)).size ∧ (mk (Wm.encL Wm.encI l)).size ≤ 536870912 := ⟨by rw [mk_size, Wm.encL, List.length_append]; omega, hle⟩
  have hms4 : 1 ≤ (mk (Wm.encL Wm.encS t)).size ∧ (mk (Wm.encL Wm.encS t)).size ≤ 536870912 := ⟨by rw [mk_size, Wm.encL, List.length_append]; omega, hte⟩
  obtain ⟨m1, m1'⟩ := hms1
  obtain ⟨m2, m2'⟩ := hms2
  obtain ⟨m3, m3'⟩ := hms3
  obtain ⟨m4, m4'⟩ := hms4
  have q1 : (((mk (Wm.encI n)).size : Int) == 0) = false := by rw [beq_eq_false_iff_ne]; omega
  have q2 : (((mk (Wm.encS s.data.toList)).size : Int) == 0) = false := by rw [beq_eq_false_iff_ne]; omega
  have q3 : (((mk (Wm.encL Wm.encI l)).size : Int) == 0) = false := by rw [beq_eq_false_iff_ne]; omega
  have q4 : (((mk (Wm.encL Wm.encS t)).size : Int) == 0) = false := by rw [beq_eq_false_iff_ne]; omega
  have r1 : 0 ≤ a % ((mk (Wm.encI n)).size : Int) := Int.emod_nonneg a (by omega)
  have r1' : a % ((mk (Wm.encI n)).size : Int) ≤ ((mk (Wm.encI n)).size : Int) := Int.le_of_lt (Int.emod_lt_of_pos a (by omega))
  have r2 : 0 ≤ a % ((mk (Wm.encS s.data.toList)).size : Int) := Int.emod_nonneg a (by omega)
  have r2' : a % ((mk (Wm.encS s.data.toList)).size : Int) ≤ ((mk (Wm.encS s.data.toList)).size : Int) := Int.le_of_lt (Int.emod_lt_of_pos a (by omega))
  have r3 : 0 ≤ a % ((mk (Wm.encL Wm.encI l)).size : Int) := Int.emod_nonneg a (by omega)
  have r3' : a % ((mk (Wm.encL Wm.encI l)).size : Int) ≤ ((mk (Wm.encL Wm.encI l)).size : Int) := Int.le_of_lt (Int.emod_lt_of_pos a (by omega))
  have r4 : 0 ≤ a % ((mk (Wm.encL Wm.encS t)).size : Int) := Int.emod_nonneg a (by omega)
  have r4' : a % ((mk (Wm.encL Wm.encS t)).size : Int) ≤ ((mk (Wm.encL Wm.encS t)).size : Int) := Int.le_of_lt (Int.emod_lt_of_pos a (by omega))
  clear hz1 hz2 hz3 hz4
  have Hii := Lib.hid hii
  have Hn := Lib.hid hn
  clear hii hn
  go_enter Try.func6, Try.ntmps6
  go_wp2_with fail
  refine (small_x _).mono ?_
  rintro e w1 ⟨rfl, hb1⟩
  go_wp2_with fail
  refine (Int_x n _ Hn.out).mono ?_
  rintro e w2 ⟨rfl, hb2⟩
  have c2 := chain hb1 hb2
  go_wp2_with fail
  refine (String_x s _ (by omega)).mono ?_
  rintro e w3 ⟨rfl, hb3⟩
  have c3 := chain c2 hb3
  go_wp2_with fail
  refine (Ints_x vl l _ (hi.below c3 (Nat.le_refl _)) Hii.out (by omega) (by omega)).mono ?_
  rintro e w4 ⟨rfl, hb4⟩
  have c4 := chain c3 hb4
  go_wp2_with fail
  refine (Strings_x vt t _ (hst.below c4 (Nat.le_refl _)) (by omega) (by omega)).mono ?_
  rintro e w5 ⟨rfl, hb5⟩
  have c5 := chain c4 hb5
  clear hb1 hb2 hb3 hb4 hb5 c2 c3 c4 hi hst
  go_wp2_with fail
  refine (ReadInt_cut n _ _ Hn.out (mod_lt m1)).mono ?_
  rintro e w6 ⟨rfl, hb6⟩
  have c6 := chain c5 hb6
  go_wp2_with fail
  refine (ReadString_cut s _ _ (by omega) (mod_lt m2)).mono ?_
  rintro e w7 ⟨rfl, hb7⟩
  have c7 := chain c6 hb7
  go_wp2_with fail
  refine (ReadInts_cut l _ _ Hii.out (by omega) (by omega) (mod_lt m3)).mono ?_
  rintro e w8 ⟨v8, rfl, hb8⟩
  have c8 := chain c7 hb8
  go_wp2_with fail
  refine (ReadStrings_cut t _ _ (by omega) (by omega) (mod_lt m4)).mono ?_
  rintro e w9 ⟨v9, rfl, hb9⟩
  have c9 := chain c8 hb9
  clear hb6 hb7 hb8 hb9 c5 c6 c7 c8
  go_wp2
  go_ret
  exact ⟨rfl, c9⟩

end Go.Proofs.Ytcoebgkkniggeaa
