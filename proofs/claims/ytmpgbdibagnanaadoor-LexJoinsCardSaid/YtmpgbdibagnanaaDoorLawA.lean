/-
  What the laws of layer 2 ask of the program (LexOk), and the examples (sane).
-/
import Derived.Test.YtmpgbdibagnanaaDoorRefH
import Derived.Test.YtmpgbdibagnanaaDoorLexH
namespace Go.Proofs.YtmpgbdibagnanaaDoor
open Go.RowKit

/-- Scan's answer: some list that reads as the tokens -/
def ScanPost (r : Except (Nat × Nat) (List Lx.Tok)) (w : World) (e : Ending) (w' : World) : Prop :=
  ∃ v, e = .returned (.tuple #[v, .int .i64 (eP r : Int), .int .i64 (eE r : Int)]) ∧ TAt w' v ((tks r).map toI) ∧ Below w.heap.size w w'

/-- THE PROGRAM's CONTRACTS: what its own walks have to show. -/
structure LexOk : Prop where
  scan : ∀ (s : ByteArray) (w : World), Sg w → s.size ≤ 30000 → Calls Tryd.prog 11 #[.string s] w fun e w' => ScanPost (Lx.scanAll s.data.toList) w e w'
  print : ∀ (v : Value) (l : List TI) (w : World), TAt w v l → (∀ t ∈ l, t.text.length ≤ 1000) → l.length ≤ 1000 → Calls Tryd.prog 20 #[v] w fun e w' => e = .returned (.string (mk (printI l))) ∧ Below w.heap.size w w'
  quote : ∀ (s : ByteArray) (w : World), s.size ≤ 1000 → Calls Tryd.prog 15 #[.string s] w fun e w' => e = .returned (if Lx.okValue s.data.toList then .tuple #[.string (mk (Lx.quoted s.data.toList)), .bool true] else .tuple #[.string ⟨#[]⟩, .bool false]) ∧ Below w.heap.size w w'
  name : ∀ (s : ByteArray) (w : World), s.size ≤ 1000 → Calls Tryd.prog 18 #[.string s] w fun e w' => e = .returned (.bool (Lx.okName s.data.toList)) ∧ Below w.heap.size w w'
  number : ∀ (s : ByteArray) (w : World), s.size ≤ 1000 → Calls Tryd.prog 13 #[.string s] w fun e w' => e = .returned (numOk s.data.toList) ∧ Below w.heap.size w w'

theorem lexOk : LexOk where
  scan s w hsg hs := by
    refine (lScan_x s w hsg (by omega)).mono ?_
    rintro e w' ⟨v, he, ho, hb⟩
    exact ⟨v, he, own_toks ho, hb⟩
  print v l w hat h1 h2 := lPrint_x v l 1000 w hat h1 (by omega) (by omega)
  quote s w hs := lQuote_x s w (by omega)
  name s w hs := by
    refine (lName_x s w (by omega)).mono ?_
    rintro e w' ⟨he, rfl⟩
    exact ⟨he, Below.refl _ _⟩
  number s w hs := by
    refine (lNumber_x s w (by omega)).mono ?_
    rintro e w' ⟨he, rfl⟩
    exact ⟨he, Below.refl _ _⟩

def tisC (l : List TI) : List Value := (l.map tiC).flatten
theorem tisC_get (l : List TI) : ∀ (j : Nat) (t : TI), l[j]? = some t → ∀ i u, (tiC t)[i]? = some u → i < 4 → (tisC l)[j * 4 + i]? = some u := by
  induction l with
  | nil => intro j t h; simp at h
  | cons x l ih =>
    intro j t h i u hu hi
    have hl : (tiC x).length = 4 := rfl
    have e : tisC (x :: l) = tiC x ++ tisC l := by simp [tisC]
    rw [e]
    cases j with
    | zero =>
      simp at h
      subst h
      rw [List.getElem?_append_left (by omega), Nat.zero_mul, Nat.zero_add]
      exact hu
    | succ j =>
      rw [List.getElem?_append_right (by omega), hl, show (j + 1) * 4 + i - 4 = j * 4 + i from by omega]
      exact ih j t (by simpa using h) i u hu hi

theorem tat_new (w : World) (l : List TI) (C : Array Value) (T : TypeId) (n cap : Nat) (hC : C.toList = tisC l) (hn : n = l.length) : TAt (w.alloc (.cells C T)) (.slice (some ⟨w.heap.size, 0, none⟩) n cap) l := by
  subst hn
  refine ⟨_, cap, rfl, fun j t ht => ?_⟩
  have key : ∀ i u, (tiC t)[i]? = some u → i < 4 → (w.alloc (.cells C T)).cell? ⟨w.heap.size, 0 + (j * 4 + i), none⟩ = some u := by
    intro i u hu hi
    rw [Nat.zero_add, World.cell?_alloc_new]
    have := tisC_get l j t ht i u hu hi
    rw [← hC] at this
    simpa using this
  exact ⟨w.heap.size, 0, rfl, by simp, key 0 _ rfl (by omega), key 1 _ rfl (by omega), key 2 _ rfl (by omega), key 3 _ rfl (by omega)⟩

theorem scan_ex (h : LexOk) (s : ByteArray) (w : World) (hsg : Sg w) (l : List Lx.Tok) (p e : Nat) (r : Except (Nat × Nat) (List Lx.Tok)) (hr : Lx.scanAll s.data.toList = r) (hl : tks r = l) (hp : eP r = p) (he : eE r = e) (hs : s.size ≤ 1000) :
    Calls Tryd.prog 11 #[.string s] w fun en w' => ∃ v, en = .returned (.tuple #[v, .int .i64 (p : Int), .int .i64 (e : Int)]) ∧ TAt w' v (l.map toI) ∧ Below w.heap.size w w' := by
  subst hr; subst hl; subst hp; subst he
  exact h.scan s w hsg (by omega)

def want1 : List Lx.Tok := [⟨0, [97, 49], 0, 0⟩, ⟨3, [61], 0, 3⟩, ⟨2, [120, 34, 121], 0, 5⟩, ⟨3, [59], 0, 11⟩]
def want5 : List Lx.Tok := [⟨0, [102], 0, 0⟩, ⟨3, [40], 0, 1⟩, ⟨1, [50], 2, 2⟩, ⟨3, [44], 0, 3⟩, ⟨2, [97], 0, 4⟩, ⟨3, [41], 0, 7⟩]
theorem ex1 : Lx.scanAll [97, 49, 32, 61, 32, 34, 120, 92, 34, 121, 34, 59, 32, 35, 32, 122] = .ok want1 := by kernel_rfl
theorem ex2 : Lx.scanAll [120, 32, 48, 48, 55] = .error (2, 3) := by kernel_rfl
theorem ex3 : Lx.scanAll [97, 32, 62, 32, 98] = .error (2, 20) := by kernel_rfl
theorem ex4 : Lx.scanAll [34, 97, 98] = .error (0, 21) := by kernel_rfl
theorem ex5 : Lx.scanAll [102, 40, 50, 44, 34, 97, 34, 41] = .ok want5 := by kernel_rfl
theorem ex6 : printI (want5.map toI) = [102, 32, 40, 32, 50, 32, 44, 32, 34, 97, 34, 32, 41] := by kernel_rfl
theorem ex7 : numOk [49, 50] = .tuple #[.int .i64 12, .bool true] := by kernel_rfl
theorem ex8 : numOk [48, 49, 50] = .tuple #[.int .i64 0, .bool false] := by kernel_rfl
theorem ex9 : Lx.okName [97, 95, 49] = true := by kernel_rfl
theorem ex10 : Lx.okName [49, 97] = false := by kernel_rfl

set_option maxHeartbeats 3200000 in
set_option maxRecDepth 100000 in
theorem sane_x (h : LexOk) (w : World) (hsg : Sg w) : Calls Tryd.prog 9 #[] w fun e w' => e = .returned (.bool true) ∧ Below w.heap.size w w' := by
  have Hsg := Lib.hid hsg
  clear hsg
  go_enter Tryd.func9, Tryd.ntmps9
  go_wp2_with fail
  refine (scan_ex h _ _ (sg_of Hsg.out (by first | assumption | exact Below.refl _ _)) want1 0 0 _ ex1 rfl rfl rfl (by decide)).mono ?_
  rintro e w1 ⟨v1, rfl, ht1, hb1⟩
  go_wp2_with fail
  refine (scan_ex h _ _ (sg_of Hsg.out (by first | assumption | exact Below.refl _ _)) [] 2 3 _ ex2 rfl rfl rfl (by decide)).mono ?_
  rintro e w2 ⟨v2, rfl, _, hb2⟩
  have c2 := chain hb1 hb2
  have ht2 := ht1.below hb2 (Nat.le_refl _)
  clear hb1 hb2 ht1
  go_wp2_with fail
  refine (scan_ex h _ _ (sg_of Hsg.out (by first | assumption | exact Below.refl _ _)) [] 2 20 _ ex3 rfl rfl rfl (by decide)).mono ?_
  rintro e w3 ⟨v3, rfl, _, hb3⟩
  have c3 := chain c2 hb3
  have ht3 := ht2.below hb3 (Nat.le_refl _)
  clear hb3 c2 ht2
  go_wp2_with fail
  refine (scan_ex h _ _ (sg_of Hsg.out (by first | assumption | exact Below.refl _ _)) [] 0 21 _ ex4 rfl rfl rfl (by decide)).mono ?_
  rintro e w4 ⟨v4, rfl, _, hb4⟩
  have c4 := chain c3 hb4
  have ht4 := ht3.below hb4 (Nat.le_refl _)
  clear hb4 c3 ht3
  go_wp2_with fail
  refine (scan_ex h _ _ (sg_of Hsg.out (by first | assumption | exact Below.refl _ _)) want5 0 0 _ ex5 rfl rfl rfl (by decide)).mono ?_
  rintro e w5 ⟨v5, rfl, hu5, hb5⟩
  have c5 := chain c4 hb5
  have ht5 := ht4.below hb5 (Nat.le_refl _)
  clear hb5 c4 ht4
  go_wp2_with fail
  refine (h.number _ _ (by decide)).mono ?_
  rintro e w6 ⟨he, hb6⟩
  have he' := he.trans (congrArg Ending.returned ex7)
  clear he
  subst he'
  have hba : ∀ o, Below w5.heap.size w5 (w5.alloc o) := fun o => (Below.refl _ _).alloc (Nat.le_refl _) o
  have hwt := fun C (hC : C.toList = tisC (want1.map toI)) => tat_new w5 (want1.map toI) C 25 4 4 hC rfl
  have ht6 := (ht5.below (hba _) (Nat.le_refl _)).below hb6 (Nat.le_refl _)
  have hu6 := (hu5.below (hba _) (Nat.le_refl _)).below hb6 (Nat.le_refl _)
  have hw6 := (hwt _ rfl).below hb6 (Nat.le_refl _)
  have c6 := chain (chain c5 (hba _)) hb6
  clear hb6 hba hwt c5 ht5 hu5
  go_wp2_with fail
  refine (h.number _ _ (by decide)).mono ?_
  rintro e w7 ⟨he, hb7⟩
  have he' := he.trans (congrArg Ending.returned ex8)
  clear he
  subst he'
  have ht7 := ht6.below hb7 (Nat.le_refl _)
  have hu7 := hu6.below hb7 (Nat.le_refl _)
  have hw7 := hw6.below hb7 (Nat.le_refl _)
  have c7 := chain c6 hb7
  clear hb7 ht6 hu6 hw6 c6
  go_wp2_with fail
  refine (Same_x _ _ _ _ _ ht7 hw7 (by decide)).mono ?_
  rintro e w8 ⟨r, hr, rfl, hb8⟩
  obtain rfl : r = true := hr.2 rfl
  have hu8 := hu7.below hb8 (Nat.le_refl _)
  have c8 := chain c7 hb8
  clear hb8 ht7 hu7 hw7 c7 hr
  go_wp2_with fail
  refine (h.print _ _ _ hu8 (by decide) (by decide)).mono ?_
  rintro e w9 ⟨he, hb9⟩
  have he' : e = .returned (.string ⟨#[102, 32, 40, 32, 50, 32, 44, 32, 34, 97, 34, 32, 41]⟩) := he.trans (congrArg (fun l => Ending.returned (.string (mk l))) ex6)
  clear he
  subst he'
  have c9 := chain c8 hb9
  clear hb9 hu8 c8
  go_wp2_with fail
  refine (h.name _ _ (by decide)).mono ?_
  rintro e w10 ⟨he, hb10⟩
  have he' : e = .returned (.bool true) := he.trans (congrArg (fun b => Ending.returned (.bool b)) ex9)
  clear he
  subst he'
  have c10 := chain c9 hb10
  clear hb10 c9
  go_wp2_with fail
  refine (h.name _ _ (by decide)).mono ?_
  rintro e w11 ⟨he, hb11⟩
  have he' : e = .returned (.bool false) := he.trans (congrArg (fun b => Ending.returned (.bool b)) ex10)
  clear he
  subst he'
  have c11 := chain c10 hb11
  clear hb11 c10
  go_wp2_with fail
  go_ret
  exact ⟨rfl, c11⟩

end Go.Proofs.YtmpgbdibagnanaaDoor
