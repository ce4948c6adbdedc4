/-
  What is read was written so: the law WireOnly's walk.
-/
import Derived.Test.YtcoebgkkniggeaaCutW
namespace Go.Proofs.Ytcoebgkkniggeaa
open Go.RowKit

theorem cat_eq {a r : List UInt8} {s : ByteArray} (h : s.data.toList = a ++ r) : mk a ++ mk r = s := by
  apply ByteArray.ext
  rw [ByteArray.data_append]
  apply Array.ext'
  rw [Array.toList_append, h]
  rfl

/-- what a read value is worth for the law: its encoding and what follows are the text, of whose size both are -/
structure Got (s : ByteArray) (a r : List UInt8) : Prop where
  eq : Hid (mk a ++ mk r = s)
  la : (mk a).size ≤ s.size
  lr : (mk r).size ≤ s.size

theorem got {s : ByteArray} {a r : List UInt8} (h : s.data.toList = a ++ r) : Got s a r := by
  have hz := size_of s
  rw [h, List.length_append] at hz
  exact ⟨cat_eq h, by rw [mk_size]; omega, by rw [mk_size]; omega⟩

theorem getI {s : ByteArray} {n : Int} {r : List UInt8} (h : Wm.rdI s.data.toList = some (n, r)) : Got s (Wm.encI n) r ∧ Wm.isInt n := ⟨got (Wm.rdI_only _ _ _ h).1, (Wm.rdI_only _ _ _ h).2⟩
theorem getS {s : ByteArray} {t r : List UInt8} (h : Wm.rdS s.data.toList = some (t, r)) : Got s (Wm.encS t) r := got (Wm.rdS_only _ _ _ h).1
theorem getLI {s : ByteArray} {l : List Int} {r : List UInt8} (h : Wm.rdL Wm.rdI s.data.toList = some (l, r)) : Got s (Wm.encL Wm.encI l) r ∧ ∀ z ∈ l, Wm.isInt z :=
  ⟨got (Wm.rdL_only (fun t x r h => Wm.rdI_only t x r h) _ _ _ h).1, (Wm.rdL_only (fun t x r h => Wm.rdI_only t x r h) _ _ _ h).2.2⟩
theorem getLS {s : ByteArray} {l : List (List UInt8)} {r : List UInt8} (h : Wm.rdL Wm.rdS s.data.toList = some (l, r)) : Got s (Wm.encL Wm.encS l) r :=
  got (Wm.rdL_only (fun t x r h => Wm.rdS_only t x r h) _ _ _ h).1

/-- the number of a list's elements is no greater than its encoding -/
theorem len_le {α : Type} (enc : α → List UInt8) (h : ∀ x, 1 ≤ (enc x).length) (l : List α) : l.length ≤ (Wm.encL enc l).length := by
  unfold Wm.encL
  rw [List.length_append]
  have : l.length ≤ ((l.map enc).flatten).length := by
    induction l with
    | nil => simp
    | cons x l ih => have := h x; simp only [List.map_cons, List.flatten_cons, List.length_append, List.length_cons]; omega
  omega
theorem len_leI (l : List Int) : l.length ≤ (Wm.encL Wm.encI l).length := len_le _ (fun x => by have := Wm.encI_len x; omega) l
theorem len_leS (l : List (List UInt8)) : l.length ≤ (Wm.encL Wm.encS l).length := len_le _ (fun x => by have := Wm.encI_len (x.length : Int); unfold Wm.encS; rw [List.length_append]; omega) l

theorem strs_val (l : List (List UInt8)) : l.map vS = l.map fun s => Value.string (mk s) := rfl

def iN (o : Option (Int × List UInt8)) : Int := (o.map (·.1)).getD 0
def rN {β : Type} (o : Option (β × List UInt8)) : List UInt8 := (o.map (·.2)).getD []
def sN (o : Option (List UInt8 × List UInt8)) : List UInt8 := (o.map (·.1)).getD []
theorem tI_eq (o : Option (Int × List UInt8)) : tI o = .tuple #[.int .i64 (iN o), .string (mk (rN o)), .bool o.isSome] := by cases o <;> rfl
theorem tS_eq (o : Option (List UInt8 × List UInt8)) : tS o = .tuple #[.string (mk (sN o)), .string (mk (rN o)), .bool o.isSome] := by cases o <;> rfl

theorem String_m (t : List UInt8) (w : World) (hs : (mk t).size ≤ 1099511627776) : Calls Try.prog 11 #[.string (mk t)] w fun e w' => e = .returned (.string (mk (Wm.encS t))) ∧ Below w.heap.size w w' := String_x (mk t) w hs

def Vw {α : Type} (s : ByteArray) (enc : α → List UInt8) (ok : α → Prop) (o : Option (α × List UInt8)) : Prop := o = none ∨ ∃ x r, o = some (x, r) ∧ Got s (enc x) r ∧ ok x

theorem vI (s : ByteArray) : Vw s Wm.encI Wm.isInt (Wm.rdI s.data.toList) := by
  cases h : Wm.rdI s.data.toList with
  | none => exact .inl rfl
  | some p => exact .inr ⟨p.1, p.2, rfl, (getI h).1, (getI h).2⟩
theorem vSs (s : ByteArray) : Vw s Wm.encS (fun _ => True) (Wm.rdS s.data.toList) := by
  cases h : Wm.rdS s.data.toList with
  | none => exact .inl rfl
  | some p => exact .inr ⟨p.1, p.2, rfl, getS h, trivial⟩
theorem vLI (s : ByteArray) : Vw s (Wm.encL Wm.encI) (fun l => ∀ z ∈ l, Wm.isInt z) (Wm.rdL Wm.rdI s.data.toList) := by
  cases h : Wm.rdL Wm.rdI s.data.toList with
  | none => exact .inl rfl
  | some p => exact .inr ⟨p.1, p.2, rfl, (getLI h).1, (getLI h).2⟩
theorem vLS (s : ByteArray) : Vw s (Wm.encL Wm.encS) (fun _ => True) (Wm.rdL Wm.rdS s.data.toList) := by
  cases h : Wm.rdL Wm.rdS s.data.toList with
  | none => exact .inl rfl
  | some p => exact .inr ⟨p.1, p.2, rfl, getLS h, trivial⟩

set_option maxHeartbeats 6400000 in
theorem WireOnly_x (s : ByteArray) (w : World) (hs : s.size ≤ 1048576) :
    Calls Try.prog 5 #[.string s] w fun e w' => e = .returned (.bool true) ∧ Below w.heap.size w w' := by
  have F1 := Lib.hid (vI s)
  have F2 := Lib.hid (vSs s)
  have F3 := Lib.hid (vLI s)
  have F4 := Lib.hid (vLS s)
  go_enter Try.func5, Try.ntmps5
  go_wp2_with fail
  refine (small_x _).mono ?_
  rintro e w1 ⟨rfl, hb1⟩
  go_wp2_with fail
  refine (ReadInt_x s _ (by omega)).mono ?_
  rintro e w2 ⟨rfl, hb2⟩
  have c2 := chain hb1 hb2
  generalize Wm.rdI s.data.toList = o1 at F1 ⊢
  rw [tI_eq]
  clear hb1 hb2
  go_wp2_with fail
  refine (ReadString_x s _ (by omega)).mono ?_
  rintro e w3 ⟨rfl, hb3⟩
  have c3 := chain c2 hb3
  generalize Wm.rdS s.data.toList = o2 at F2 ⊢
  rw [tS_eq]
  clear hb3 c2
  go_wp2_with fail
  refine (ReadInts_x s _ (by omega)).mono ?_
  rintro e w4 ⟨v4, rfl, hown4, hb4⟩
  have c4 := chain c3 hb4
  generalize Wm.rdL Wm.rdI s.data.toList = o3 at F3 hown4 ⊢
  have hs4 := own_at (xs := (oL o3).map (Value.int .i64)) (by simpa using hown4)
  clear hb4 c3 hown4
  go_wp2_with fail
  refine (ReadStrings_x s _ (by omega)).mono ?_
  rintro e w5 ⟨v5, rfl, hown5, hb5⟩
  have c5 := chain c4 hb5
  generalize Wm.rdL Wm.rdS s.data.toList = o4 at F4 hown5 ⊢
  have hs5 := own_at (xs := (oL o4).map vS) (by simpa using hown5)
  have hs45 := hs4.below hb5 (Nat.le_refl _)
  clear hb5 c4 hown5 hs4
  have hr := Below.refl w5.heap.size w5
  have hmt : (mk []).toList = [] := toList_mk []
  rcases F1.out with rfl | ⟨n, r1, rfl, ⟨e1, l1, k1⟩, j1⟩
  · skip
    rcases F2.out with rfl | ⟨t, r2, rfl, ⟨e2, l2, k2⟩, j2⟩
    · skip
      rcases F3.out with rfl | ⟨zs, r3, rfl, ⟨e3, l3, k3⟩, j3⟩
      · skip
        rcases F4.out with rfl | ⟨ss, r4, rfl, ⟨e4, l4, k4⟩, j4⟩
        · skip
          obtain ⟨a4, c4, rfl, _⟩ := hs45
          obtain ⟨a5, c5', rfl, _⟩ := hs5
          clear F1 F2 F3 F4
          simp only [iN, sN, rN, oR, oL, Option.map_none, Option.getD_none, Option.isSome_none, List.map_nil, List.length_nil]
          go_wp2_with (first | (go_at_call 9; refine (Int_x n _ j1).mono ?_; rintro e w6 ⟨rfl, hb6⟩; have hr6 := chain (W := w5) (by assumption) hb6) | (go_at_call 11; refine (String_m t _ (by omega)).mono ?_; rintro e w7 ⟨rfl, hb7⟩; have hr7 := chain (W := w5) (by assumption) hb7) | (go_at_call 13; refine (Ints_x v4 zs _ (hs45.below (B := w5.heap.size) (by assumption) (Nat.le_refl _)) j3 (by omega) (by omega)).mono ?_; rintro e w8 ⟨rfl, hb8⟩; have hr8 := chain (W := w5) (by assumption) hb8) | (go_at_call 15; refine (Strings_x v5 ss _ (hs5.below (B := w5.heap.size) (by assumption) (Nat.le_refl _)) (by omega) (by omega)).mono ?_; rintro e w9 ⟨rfl, hb9⟩; have hr9 := chain (W := w5) (by assumption) hb9))
          go_ret
          exact ⟨rfl, chain c5 (by assumption)⟩
        · skip
          obtain ⟨a4, c4, rfl, _⟩ := hs45
          have q4 := e4.out
          have ls := len_leS ss
          rw [← mk_size (Wm.encL Wm.encS ss)] at ls
          have Ls : (Wm.encL Wm.encS ss).length ≤ 1099511627776 := by rw [← mk_size (Wm.encL Wm.encS ss)]; omega
          clear F1 F2 F3 F4
          simp only [iN, sN, rN, oR, oL, Option.map_none, Option.map_some, Option.getD_none, Option.getD_some, Option.isSome_none, Option.isSome_some, List.map_nil, List.length_nil]
          go_wp2_with (first | (go_at_call 9; refine (Int_x n _ j1).mono ?_; rintro e w6 ⟨rfl, hb6⟩; have hr6 := chain (W := w5) (by assumption) hb6) | (go_at_call 11; refine (String_m t _ (by omega)).mono ?_; rintro e w7 ⟨rfl, hb7⟩; have hr7 := chain (W := w5) (by assumption) hb7) | (go_at_call 13; refine (Ints_x v4 zs _ (hs45.below (B := w5.heap.size) (by assumption) (Nat.le_refl _)) j3 (by omega) (by omega)).mono ?_; rintro e w8 ⟨rfl, hb8⟩; have hr8 := chain (W := w5) (by assumption) hb8) | (go_at_call 15; refine (Strings_x v5 ss _ (hs5.below (B := w5.heap.size) (by assumption) (Nat.le_refl _)) (by omega) (by omega)).mono ?_; rintro e w9 ⟨rfl, hb9⟩; have hr9 := chain (W := w5) (by assumption) hb9))
          go_ret
          exact ⟨rfl, chain c5 (by assumption)⟩
      · skip
        rcases F4.out with rfl | ⟨ss, r4, rfl, ⟨e4, l4, k4⟩, j4⟩
        · skip
          obtain ⟨a5, c5', rfl, _⟩ := hs5
          have q3 := e3.out
          have lz := len_leI zs
          rw [← mk_size (Wm.encL Wm.encI zs)] at lz
          have Lz : (Wm.encL Wm.encI zs).length ≤ 1099511627776 := by rw [← mk_size (Wm.encL Wm.encI zs)]; omega
          clear F1 F2 F3 F4
          simp only [iN, sN, rN, oR, oL, Option.map_none, Option.map_some, Option.getD_none, Option.getD_some, Option.isSome_none, Option.isSome_some, List.map_nil, List.length_nil]
          go_wp2_with (first | (go_at_call 9; refine (Int_x n _ j1).mono ?_; rintro e w6 ⟨rfl, hb6⟩; have hr6 := chain (W := w5) (by assumption) hb6) | (go_at_call 11; refine (String_m t _ (by omega)).mono ?_; rintro e w7 ⟨rfl, hb7⟩; have hr7 := chain (W := w5) (by assumption) hb7) | (go_at_call 13; refine (Ints_x v4 zs _ (hs45.below (B := w5.heap.size) (by assumption) (Nat.le_refl _)) j3 (by omega) (by omega)).mono ?_; rintro e w8 ⟨rfl, hb8⟩; have hr8 := chain (W := w5) (by assumption) hb8) | (go_at_call 15; refine (Strings_x v5 ss _ (hs5.below (B := w5.heap.size) (by assumption) (Nat.le_refl _)) (by omega) (by omega)).mono ?_; rintro e w9 ⟨rfl, hb9⟩; have hr9 := chain (W := w5) (by assumption) hb9))
          go_ret
          exact ⟨rfl, chain c5 (by assumption)⟩
        · skip
          have q3 := e3.out
          have q4 := e4.out
          have lz := len_leI zs
          rw [← mk_size (Wm.encL Wm.encI zs)] at lz
          have Lz : (Wm.encL Wm.encI zs).length ≤ 1099511627776 := by rw [← mk_size (Wm.encL Wm.encI zs)]; omega
          have ls := len_leS ss
          rw [← mk_size (Wm.encL Wm.encS ss)] at ls
          have Ls : (Wm.encL Wm.encS ss).length ≤ 1099511627776 := by rw [← mk_size (Wm.encL Wm.encS ss)]; omega
          clear F1 F2 F3 F4
          simp only [iN, sN, rN, oR, Option.map_none, Option.map_some, Option.getD_none, Option.getD_some, Option.isSome_none, Option.isSome_some]
          go_wp2_with (first | (go_at_call 9; refine (Int_x n _ j1).mono ?_; rintro e w6 ⟨rfl, hb6⟩; have hr6 := chain (W := w5) (by assumption) hb6) | (go_at_call 11; refine (String_m t _ (by omega)).mono ?_; rintro e w7 ⟨rfl, hb7⟩; have hr7 := chain (W := w5) (by assumption) hb7) | (go_at_call 13; refine (Ints_x v4 zs _ (hs45.below (B := w5.heap.size) (by assumption) (Nat.le_refl _)) j3 (by omega) (by omega)).mono ?_; rintro e w8 ⟨rfl, hb8⟩; have hr8 := chain (W := w5) (by assumption) hb8) | (go_at_call 15; refine (Strings_x v5 ss _ (hs5.below (B := w5.heap.size) (by assumption) (Nat.le_refl _)) (by omega) (by omega)).mono ?_; rintro e w9 ⟨rfl, hb9⟩; have hr9 := chain (W := w5) (by assumption) hb9))
          go_ret
          exact ⟨rfl, chain c5 (by assumption)⟩
    · skip
      rcases F3.out with rfl | ⟨zs, r3, rfl, ⟨e3, l3, k3⟩, j3⟩
      · skip
        rcases F4.out with rfl | ⟨ss, r4, rfl, ⟨e4, l4, k4⟩, j4⟩
        · skip
          obtain ⟨a4, c4, rfl, _⟩ := hs45
          obtain ⟨a5, c5', rfl, _⟩ := hs5
          have q2 := e2.out
          have lt := mk_size t
          have ltt : t.length ≤ (mk (Wm.encS t)).size := by rw [mk_size, Wm.encS, List.length_append]; omega
          clear F1 F2 F3 F4
          simp only [iN, sN, rN, oR, oL, Option.map_none, Option.map_some, Option.getD_none, Option.getD_some, Option.isSome_none, Option.isSome_some, List.map_nil, List.length_nil]
          go_wp2_with (first | (go_at_call 9; refine (Int_x n _ j1).mono ?_; rintro e w6 ⟨rfl, hb6⟩; have hr6 := chain (W := w5) (by assumption) hb6) | (go_at_call 11; refine (String_m t _ (by omega)).mono ?_; rintro e w7 ⟨rfl, hb7⟩; have hr7 := chain (W := w5) (by assumption) hb7) | (go_at_call 13; refine (Ints_x v4 zs _ (hs45.below (B := w5.heap.size) (by assumption) (Nat.le_refl _)) j3 (by omega) (by omega)).mono ?_; rintro e w8 ⟨rfl, hb8⟩; have hr8 := chain (W := w5) (by assumption) hb8) | (go_at_call 15; refine (Strings_x v5 ss _ (hs5.below (B := w5.heap.size) (by assumption) (Nat.le_refl _)) (by omega) (by omega)).mono ?_; rintro e w9 ⟨rfl, hb9⟩; have hr9 := chain (W := w5) (by assumption) hb9))
          go_ret
          exact ⟨rfl, chain c5 (by assumption)⟩
        · skip
          obtain ⟨a4, c4, rfl, _⟩ := hs45
          have q2 := e2.out
          have q4 := e4.out
          have lt := mk_size t
          have ltt : t.length ≤ (mk (Wm.encS t)).size := by rw [mk_size, Wm.encS, List.length_append]; omega
          have ls := len_leS ss
          rw [← mk_size (Wm.encL Wm.encS ss)] at ls
          have Ls : (Wm.encL Wm.encS ss).length ≤ 1099511627776 := by rw [← mk_size (Wm.encL Wm.encS ss)]; omega
          clear F1 F2 F3 F4
          simp only [iN, sN, rN, oR, oL, Option.map_none, Option.map_some, Option.getD_none, Option.getD_some, Option.isSome_none, Option.isSome_some, List.map_nil, List.length_nil]
          go_wp2_with (first | (go_at_call 9; refine (Int_x n _ j1).mono ?_; rintro e w6 ⟨rfl, hb6⟩; have hr6 := chain (W := w5) (by assumption) hb6) | (go_at_call 11; refine (String_m t _ (by omega)).mono ?_; rintro e w7 ⟨rfl, hb7⟩; have hr7 := chain (W := w5) (by assumption) hb7) | (go_at_call 13; refine (Ints_x v4 zs _ (hs45.below (B := w5.heap.size) (by assumption) (Nat.le_refl _)) j3 (by omega) (by omega)).mono ?_; rintro e w8 ⟨rfl, hb8⟩; have hr8 := chain (W := w5) (by assumption) hb8) | (go_at_call 15; refine (Strings_x v5 ss _ (hs5.below (B := w5.heap.size) (by assumption) (Nat.le_refl _)) (by omega) (by omega)).mono ?_; rintro e w9 ⟨rfl, hb9⟩; have hr9 := chain (W := w5) (by assumption) hb9))
          go_ret
          exact ⟨rfl, chain c5 (by assumption)⟩
      · skip
        rcases F4.out with rfl | ⟨ss, r4, rfl, ⟨e4, l4, k4⟩, j4⟩
        · skip
          obtain ⟨a5, c5', rfl, _⟩ := hs5
          have q2 := e2.out
          have q3 := e3.out
          have lt := mk_size t
          have ltt : t.length ≤ (mk (Wm.encS t)).size := by rw [mk_size, Wm.encS, List.length_append]; omega
          have lz := len_leI zs
          rw [← mk_size (Wm.encL Wm.encI zs)] at lz
          have Lz : (Wm.encL Wm.encI zs).length ≤ 1099511627776 := by rw [← mk_size (Wm.encL Wm.encI zs)]; omega
          clear F1 F2 F3 F4
          simp only [iN, sN, rN, oR, oL, Option.map_none, Option.map_some, Option.getD_none, Option.getD_some, Option.isSome_none, Option.isSome_some, List.map_nil, List.length_nil]
          go_wp2_with (first | (go_at_call 9; refine (Int_x n _ j1).mono ?_; rintro e w6 ⟨rfl, hb6⟩; have hr6 := chain (W := w5) (by assumption) hb6) | (go_at_call 11; refine (String_m t _ (by omega)).mono ?_; rintro e w7 ⟨rfl, hb7⟩; have hr7 := chain (W := w5) (by assumption) hb7) | (go_at_call 13; refine (Ints_x v4 zs _ (hs45.below (B := w5.heap.size) (by assumption) (Nat.le_refl _)) j3 (by omega) (by omega)).mono ?_; rintro e w8 ⟨rfl, hb8⟩; have hr8 := chain (W := w5) (by assumption) hb8) | (go_at_call 15; refine (Strings_x v5 ss _ (hs5.below (B := w5.heap.size) (by assumption) (Nat.le_refl _)) (by omega) (by omega)).mono ?_; rintro e w9 ⟨rfl, hb9⟩; have hr9 := chain (W := w5) (by assumption) hb9))
          go_ret
          exact ⟨rfl, chain c5 (by assumption)⟩
        · skip
          have q2 := e2.out
          have q3 := e3.out
          have q4 := e4.out
          have lt := mk_size t
          have ltt : t.length ≤ (mk (Wm.encS t)).size := by rw [mk_size, Wm.encS, List.length_append]; omega
          have lz := len_leI zs
          rw [← mk_size (Wm.encL Wm.encI zs)] at lz
          have Lz : (Wm.encL Wm.encI zs).length ≤ 1099511627776 := by rw [← mk_size (Wm.encL Wm.encI zs)]; omega
          have ls := len_leS ss
          rw [← mk_size (Wm.encL Wm.encS ss)] at ls
          have Ls : (Wm.encL Wm.encS ss).length ≤ 1099511627776 := by rw [← mk_size (Wm.encL Wm.encS ss)]; omega
          clear F1 F2 F3 F4
          simp only [iN, sN, rN, oR, Option.map_none, Option.map_some, Option.getD_none, Option.getD_some, Option.isSome_none, Option.isSome_some]
          go_wp2_with (first | (go_at_call 9; refine (Int_x n _ j1).mono ?_; rintro e w6 ⟨rfl, hb6⟩; have hr6 := chain (W := w5) (by assumption) hb6) | (go_at_call 11; refine (String_m t _ (by omega)).mono ?_; rintro e w7 ⟨rfl, hb7⟩; have hr7 := chain (W := w5) (by assumption) hb7) | (go_at_call 13; refine (Ints_x v4 zs _ (hs45.below (B := w5.heap.size) (by assumption) (Nat.le_refl _)) j3 (by omega) (by omega)).mono ?_; rintro e w8 ⟨rfl, hb8⟩; have hr8 := chain (W := w5) (by assumption) hb8) | (go_at_call 15; refine (Strings_x v5 ss _ (hs5.below (B := w5.heap.size) (by assumption) (Nat.le_refl _)) (by omega) (by omega)).mono ?_; rintro e w9 ⟨rfl, hb9⟩; have hr9 := chain (W := w5) (by assumption) hb9))
          go_ret
          exact ⟨rfl, chain c5 (by assumption)⟩
  · skip
    rcases F2.out with rfl | ⟨t, r2, rfl, ⟨e2, l2, k2⟩, j2⟩
    · skip
      rcases F3.out with rfl | ⟨zs, r3, rfl, ⟨e3, l3, k3⟩, j3⟩
      · skip
        rcases F4.out with rfl | ⟨ss, r4, rfl, ⟨e4, l4, k4⟩, j4⟩
        · skip
          obtain ⟨a4, c4, rfl, _⟩ := hs45
          obtain ⟨a5, c5', rfl, _⟩ := hs5
          have q1 := e1.out
          clear F1 F2 F3 F4
          simp only [iN, sN, rN, oR, oL, Option.map_none, Option.map_some, Option.getD_none, Option.getD_some, Option.isSome_none, Option.isSome_some, List.map_nil, List.length_nil]
          go_wp2_with (first | (go_at_call 9; refine (Int_x n _ j1).mono ?_; rintro e w6 ⟨rfl, hb6⟩; have hr6 := chain (W := w5) (by assumption) hb6) | (go_at_call 11; refine (String_m t _ (by omega)).mono ?_; rintro e w7 ⟨rfl, hb7⟩; have hr7 := chain (W := w5) (by assumption) hb7) | (go_at_call 13; refine (Ints_x v4 zs _ (hs45.below (B := w5.heap.size) (by assumption) (Nat.le_refl _)) j3 (by omega) (by omega)).mono ?_; rintro e w8 ⟨rfl, hb8⟩; have hr8 := chain (W := w5) (by assumption) hb8) | (go_at_call 15; refine (Strings_x v5 ss _ (hs5.below (B := w5.heap.size) (by assumption) (Nat.le_refl _)) (by omega) (by omega)).mono ?_; rintro e w9 ⟨rfl, hb9⟩; have hr9 := chain (W := w5) (by assumption) hb9))
          go_ret
          exact ⟨rfl, chain c5 (by assumption)⟩
        · skip
          obtain ⟨a4, c4, rfl, _⟩ := hs45
          have q1 := e1.out
          have q4 := e4.out
          have ls := len_leS ss
          rw [← mk_size (Wm.encL Wm.encS ss)] at ls
          have Ls : (Wm.encL Wm.encS ss).length ≤ 1099511627776 := by rw [← mk_size (Wm.encL Wm.encS ss)]; omega
          clear F1 F2 F3 F4
          simp only [iN, sN, rN, oR, oL, Option.map_none, Option.map_some, Option.getD_none, Option.getD_some, Option.isSome_none, Option.isSome_some, List.map_nil, List.length_nil]
          go_wp2_with (first | (go_at_call 9; refine (Int_x n _ j1).mono ?_; rintro e w6 ⟨rfl, hb6⟩; have hr6 := chain (W := w5) (by assumption) hb6) | (go_at_call 11; refine (String_m t _ (by omega)).mono ?_; rintro e w7 ⟨rfl, hb7⟩; have hr7 := chain (W := w5) (by assumption) hb7) | (go_at_call 13; refine (Ints_x v4 zs _ (hs45.below (B := w5.heap.size) (by assumption) (Nat.le_refl _)) j3 (by omega) (by omega)).mono ?_; rintro e w8 ⟨rfl, hb8⟩; have hr8 := chain (W := w5) (by assumption) hb8) | (go_at_call 15; refine (Strings_x v5 ss _ (hs5.below (B := w5.heap.size) (by assumption) (Nat.le_refl _)) (by omega) (by omega)).mono ?_; rintro e w9 ⟨rfl, hb9⟩; have hr9 := chain (W := w5) (by assumption) hb9))
          go_ret
          exact ⟨rfl, chain c5 (by assumption)⟩
      · skip
        rcases F4.out with rfl | ⟨ss, r4, rfl, ⟨e4, l4, k4⟩, j4⟩
        · skip
          obtain ⟨a5, c5', rfl, _⟩ := hs5
          have q1 := e1.out
          have q3 := e3.out
          have lz := len_leI zs
          rw [← mk_size (Wm.encL Wm.encI zs)] at lz
          have Lz : (Wm.encL Wm.encI zs).length ≤ 1099511627776 := by rw [← mk_size (Wm.encL Wm.encI zs)]; omega
          clear F1 F2 F3 F4
          simp only [iN, sN, rN, oR, oL, Option.map_none, Option.map_some, Option.getD_none, Option.getD_some, Option.isSome_none, Option.isSome_some, List.map_nil, List.length_nil]
          go_wp2_with (first | (go_at_call 9; refine (Int_x n _ j1).mono ?_; rintro e w6 ⟨rfl, hb6⟩; have hr6 := chain (W := w5) (by assumption) hb6) | (go_at_call 11; refine (String_m t _ (by omega)).mono ?_; rintro e w7 ⟨rfl, hb7⟩; have hr7 := chain (W := w5) (by assumption) hb7) | (go_at_call 13; refine (Ints_x v4 zs _ (hs45.below (B := w5.heap.size) (by assumption) (Nat.le_refl _)) j3 (by omega) (by omega)).mono ?_; rintro e w8 ⟨rfl, hb8⟩; have hr8 := chain (W := w5) (by assumption) hb8) | (go_at_call 15; refine (Strings_x v5 ss _ (hs5.below (B := w5.heap.size) (by assumption) (Nat.le_refl _)) (by omega) (by omega)).mono ?_; rintro e w9 ⟨rfl, hb9⟩; have hr9 := chain (W := w5) (by assumption) hb9))
          go_ret
          exact ⟨rfl, chain c5 (by assumption)⟩
        · skip
          have q1 := e1.out
          have q3 := e3.out
          have q4 := e4.out
          have lz := len_leI zs
          rw [← mk_size (Wm.encL Wm.encI zs)] at lz
          have Lz : (Wm.encL Wm.encI zs).length ≤ 1099511627776 := by rw [← mk_size (Wm.encL Wm.encI zs)]; omega
          have ls := len_leS ss
          rw [← mk_size (Wm.encL Wm.encS ss)] at ls
          have Ls : (Wm.encL Wm.encS ss).length ≤ 1099511627776 := by rw [← mk_size (Wm.encL Wm.encS ss)]; omega
          clear F1 F2 F3 F4
          simp only [iN, sN, rN, oR, Option.map_none, Option.map_some, Option.getD_none, Option.getD_some, Option.isSome_none, Option.isSome_some]
          go_wp2_with (first | (go_at_call 9; refine (Int_x n _ j1).mono ?_; rintro e w6 ⟨rfl, hb6⟩; have hr6 := chain (W := w5) (by assumption) hb6) | (go_at_call 11; refine (String_m t _ (by omega)).mono ?_; rintro e w7 ⟨rfl, hb7⟩; have hr7 := chain (W := w5) (by assumption) hb7) | (go_at_call 13; refine (Ints_x v4 zs _ (hs45.below (B := w5.heap.size) (by assumption) (Nat.le_refl _)) j3 (by omega) (by omega)).mono ?_; rintro e w8 ⟨rfl, hb8⟩; have hr8 := chain (W := w5) (by assumption) hb8) | (go_at_call 15; refine (Strings_x v5 ss _ (hs5.below (B := w5.heap.size) (by assumption) (Nat.le_refl _)) (by omega) (by omega)).mono ?_; rintro e w9 ⟨rfl, hb9⟩; have hr9 := chain (W := w5) (by assumption) hb9))
          go_ret
          exact ⟨rfl, chain c5 (by assumption)⟩
    · skip
      rcases F3.out with rfl | ⟨zs, r3, rfl, ⟨e3, l3, k3⟩, j3⟩
      · skip
        rcases F4.out with rfl | ⟨ss, r4, rfl, ⟨e4, l4, k4⟩, j4⟩
        · skip
          obtain ⟨a4, c4, rfl, _⟩ := hs45
          obtain ⟨a5, c5', rfl, _⟩ := hs5
          have q1 := e1.out
          have q2 := e2.out
          have lt := mk_size t
          have ltt : t.length ≤ (mk (Wm.encS t)).size := by rw [mk_size, Wm.encS, List.length_append]; omega
          clear F1 F2 F3 F4
          simp only [iN, sN, rN, oR, oL, Option.map_none, Option.map_some, Option.getD_none, Option.getD_some, Option.isSome_none, Option.isSome_some, List.map_nil, List.length_nil]
          go_wp2_with (first | (go_at_call 9; refine (Int_x n _ j1).mono ?_; rintro e w6 ⟨rfl, hb6⟩; have hr6 := chain (W := w5) (by assumption) hb6) | (go_at_call 11; refine (String_m t _ (by omega)).mono ?_; rintro e w7 ⟨rfl, hb7⟩; have hr7 := chain (W := w5) (by assumption) hb7) | (go_at_call 13; refine (Ints_x v4 zs _ (hs45.below (B := w5.heap.size) (by assumption) (Nat.le_refl _)) j3 (by omega) (by omega)).mono ?_; rintro e w8 ⟨rfl, hb8⟩; have hr8 := chain (W := w5) (by assumption) hb8) | (go_at_call 15; refine (Strings_x v5 ss _ (hs5.below (B := w5.heap.size) (by assumption) (Nat.le_refl _)) (by omega) (by omega)).mono ?_; rintro e w9 ⟨rfl, hb9⟩; have hr9 := chain (W := w5) (by assumption) hb9))
          go_ret
          exact ⟨rfl, chain c5 (by assumption)⟩
        · skip
          obtain ⟨a4, c4, rfl, _⟩ := hs45
          have q1 := e1.out
          have q2 := e2.out
          have q4 := e4.out
          have lt := mk_size t
          have ltt : t.length ≤ (mk (Wm.encS t)).size := by rw [mk_size, Wm.encS, List.length_append]; omega
          have ls := len_leS ss
          rw [← mk_size (Wm.encL Wm.encS ss)] at ls
          have Ls : (Wm.encL Wm.encS ss).length ≤ 1099511627776 := by rw [← mk_size (Wm.encL Wm.encS ss)]; omega
          clear F1 F2 F3 F4
          simp only [iN, sN, rN, oR, oL, Option.map_none, Option.map_some, Option.getD_none, Option.getD_some, Option.isSome_none, Option.isSome_some, List.map_nil, List.length_nil]
          go_wp2_with (first | (go_at_call 9; refine (Int_x n _ j1).mono ?_; rintro e w6 ⟨rfl, hb6⟩; have hr6 := chain (W := w5) (by assumption) hb6) | (go_at_call 11; refine (String_m t _ (by omega)).mono ?_; rintro e w7 ⟨rfl, hb7⟩; have hr7 := chain (W := w5) (by assumption) hb7) | (go_at_call 13; refine (Ints_x v4 zs _ (hs45.below (B := w5.heap.size) (by assumption) (Nat.le_refl _)) j3 (by omega) (by omega)).mono ?_; rintro e w8 ⟨rfl, hb8⟩; have hr8 := chain (W := w5) (by assumption) hb8) | (go_at_call 15; refine (Strings_x v5 ss _ (hs5.below (B := w5.heap.size) (by assumption) (Nat.le_refl _)) (by omega) (by omega)).mono ?_; rintro e w9 ⟨rfl, hb9⟩; have hr9 := chain (W := w5) (by assumption) hb9))
          go_ret
          exact ⟨rfl, chain c5 (by assumption)⟩
      · skip
        rcases F4.out with rfl | ⟨ss, r4, rfl, ⟨e4, l4, k4⟩, j4⟩
        · skip
          obtain ⟨a5, c5', rfl, _⟩ := hs5
          have q1 := e1.out
          have q2 := e2.out
          have q3 := e3.out
          have lt := mk_size t
          have ltt : t.length ≤ (mk (Wm.encS t)).size := by rw [mk_size, Wm.encS, List.length_append]; omega
          have lz := len_leI zs
          rw [← mk_size (Wm.encL Wm.encI zs)] at lz
          have Lz : (Wm.encL Wm.encI zs).length ≤ 1099511627776 := by rw [← mk_size (Wm.encL Wm.encI zs)]; omega
          clear F1 F2 F3 F4
          simp only [iN, sN, rN, oR, oL, Option.map_none, Option.map_some, Option.getD_none, Option.getD_some, Option.isSome_none, Option.isSome_some, List.map_nil, List.length_nil]
          go_wp2_with (first | (go_at_call 9; refine (Int_x n _ j1).mono ?_; rintro e w6 ⟨rfl, hb6⟩; have hr6 := chain (W := w5) (by assumption) hb6) | (go_at_call 11; refine (String_m t _ (by omega)).mono ?_; rintro e w7 ⟨rfl, hb7⟩; have hr7 := chain (W := w5) (by assumption) hb7) | (go_at_call 13; refine (Ints_x v4 zs _ (hs45.below (B := w5.heap.size) (by assumption) (Nat.le_refl _)) j3 (by omega) (by omega)).mono ?_; rintro e w8 ⟨rfl, hb8⟩; have hr8 := chain (W := w5) (by assumption) hb8) | (go_at_call 15; refine (Strings_x v5 ss _ (hs5.below (B := w5.heap.size) (by assumption) (Nat.le_refl _)) (by omega) (by omega)).mono ?_; rintro e w9 ⟨rfl, hb9⟩; have hr9 := chain (W := w5) (by assumption) hb9))
          go_ret
          exact ⟨rfl, chain c5 (by assumption)⟩
        · skip
          have q1 := e1.out
          have q2 := e2.out
          have q3 := e3.out
          have q4 := e4.out
          have lt := mk_size t
          have ltt : t.length ≤ (mk (Wm.encS t)).size := by rw [mk_size, Wm.encS, List.length_append]; omega
          have lz := len_leI zs
          rw [← mk_size (Wm.encL Wm.encI zs)] at lz
          have Lz : (Wm.encL Wm.encI zs).length ≤ 1099511627776 := by rw [← mk_size (Wm.encL Wm.encI zs)]; omega
          have ls := len_leS ss
          rw [← mk_size (Wm.encL Wm.encS ss)] at ls
          have Ls : (Wm.encL Wm.encS ss).length ≤ 1099511627776 := by rw [← mk_size (Wm.encL Wm.encS ss)]; omega
          clear F1 F2 F3 F4
          simp only [iN, sN, rN, oR, Option.map_some, Option.getD_some, Option.isSome_some]
          go_wp2_with (first | (go_at_call 9; refine (Int_x n _ j1).mono ?_; rintro e w6 ⟨rfl, hb6⟩; have hr6 := chain (W := w5) (by assumption) hb6) | (go_at_call 11; refine (String_m t _ (by omega)).mono ?_; rintro e w7 ⟨rfl, hb7⟩; have hr7 := chain (W := w5) (by assumption) hb7) | (go_at_call 13; refine (Ints_x v4 zs _ (hs45.below (B := w5.heap.size) (by assumption) (Nat.le_refl _)) j3 (by omega) (by omega)).mono ?_; rintro e w8 ⟨rfl, hb8⟩; have hr8 := chain (W := w5) (by assumption) hb8) | (go_at_call 15; refine (Strings_x v5 ss _ (hs5.below (B := w5.heap.size) (by assumption) (Nat.le_refl _)) (by omega) (by omega)).mono ?_; rintro e w9 ⟨rfl, hb9⟩; have hr9 := chain (W := w5) (by assumption) hb9))
          go_ret
          exact ⟨rfl, chain c5 (by assumption)⟩

end Go.Proofs.Ytcoebgkkniggeaa
