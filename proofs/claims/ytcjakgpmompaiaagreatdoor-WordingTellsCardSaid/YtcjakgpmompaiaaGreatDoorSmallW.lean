/-
  The examples of the laws: small.
-/
import Derived.Test.YtcjakgpmompaiaaGreatDoorSaA
import Derived.Test.YtcjakgpmompaiaaGreatDoorWdV
import Derived.Test.YtcjakgpmompaiaaGreatDoorLwA
namespace Go.Proofs.YtcjakgpmompaiaaGreatDoor
open Go.RowKit Rl Wd

theorem exCheck (n : Nat) (k N : Int) (w : World) (h : ExB w n) :
    Calls Tryz.prog 12 #[.agg #[.slice (blk n 2) 1 1, .slice (blk n 3) 1 1, .slice (blk n 4) 1 1, .slice (blk n 5) 2 2, .slice (blk n 6) 1 1, .slice none 0 0, .slice none 0 0, .slice none 0 0], .agg #[.int .i64 0, .int .i64 1, .int .i64 (-1), .int .i64 500, .int .i64 0, .int .i64 k, .int .i64 0, .int .i64 0, .int .i64 59, .int .i64 0, .int .i64 0, .int .i64 (-1), .int .i64 0, .int .i64 1, .int .i64 N]] w fun r w' => r = .returned (.int .i64 (checkW EX (eB k N))) ∧ Below w.heap.size w w' := WCheck_x (R := EX) (eB k N) w h.rs ex_fit
theorem ezCheck (w : World) :
    Calls Tryz.prog 12 #[.agg #[.slice none 0 0, .slice none 0 0, .slice none 0 0, .slice none 0 0, .slice none 0 0, .slice none 0 0, .slice none 0 0, .slice none 0 0], .agg #[.int .i64 0, .int .i64 1, .int .i64 (-1), .int .i64 500, .int .i64 0, .int .i64 0, .int .i64 0, .int .i64 0, .int .i64 59, .int .i64 0, .int .i64 0, .int .i64 (-1), .int .i64 0, .int .i64 1, .int .i64 2]] w fun r w' => r = .returned (.int .i64 1) ∧ Below w.heap.size w w' := by
  have := WCheck_x (R := EZ) (eB 0 2) w (ez_rs w) ez_fit
  rw [ez_check] at this
  exact this
theorem exText (n : Nat) (p : Int) (w : World) (h : ExB w n) (hE : Ev w) :
    Calls Tryz.prog 14 #[.agg #[.slice (blk n 2) 1 1, .slice (blk n 3) 1 1, .slice (blk n 4) 1 1, .slice (blk n 5) 2 2, .slice (blk n 6) 1 1, .slice none 0 0, .slice none 0 0, .slice none 0 0], .agg #[.int .i64 0, .int .i64 1, .int .i64 (-1), .int .i64 500, .int .i64 0, .int .i64 0, .int .i64 0, .int .i64 0, .int .i64 59, .int .i64 0, .int .i64 0, .int .i64 (-1), .int .i64 0, .int .i64 1, .int .i64 2], .int .i64 p] w fun r w' => r = .returned (.string (textP EX (eB 0 2) p)) ∧ Below w.heap.size w w' := WText_x (R := EX) (eB 0 2) p w h.rs ex_fit hE
theorem exParse (n : Nat) (s : B) (w : World) (h : ExB w n) (hE : Ev w) (hs : s.size ≤ 100000) :
    Calls Tryz.prog 10 #[.agg #[.slice (blk n 2) 1 1, .slice (blk n 3) 1 1, .slice (blk n 4) 1 1, .slice (blk n 5) 2 2, .slice (blk n 6) 1 1, .slice none 0 0, .slice none 0 0, .slice none 0 0], .string s] w fun r w' => r = .returned (pvB (parseP EX s)) ∧ Uniq EX s ∧ Below w.heap.size w w' := Parse_x (R := EX) s w h.rs ex_fit hE hs
theorem exAlike (n : Nat) (a b : B) (w : World) (h : ExB w n) (hE : Ev w) (ha : a.size ≤ 100000) (hb : b.size ≤ 100000) :
    Calls Tryz.prog 16 #[.agg #[.slice (blk n 2) 1 1, .slice (blk n 3) 1 1, .slice (blk n 4) 1 1, .slice (blk n 5) 2 2, .slice (blk n 6) 1 1, .slice none 0 0, .slice none 0 0, .slice none 0 0], .string a, .string b] w fun r w' => r = .returned (.bool (alikeP EX a b)) ∧ Below w.heap.size w w' := Alike_x (R := EX) a b w h.rs ex_fit hE ha hb
theorem pv_ex : pvB (some (eB 0 2, 1)) = .tuple #[.agg #[.int .i64 0, .int .i64 1, .int .i64 (-1), .int .i64 500, .int .i64 0, .int .i64 0, .int .i64 0, .int .i64 0, .int .i64 59, .int .i64 0, .int .i64 0, .int .i64 (-1), .int .i64 0, .int .i64 1, .int .i64 2], .int .i64 1, .int .i64 0] := rfl
theorem pv_no : pvB none = .tuple #[.agg #[.int .i64 0, .int .i64 0, .int .i64 0, .int .i64 0, .int .i64 0, .int .i64 0, .int .i64 0, .int .i64 0, .int .i64 0, .int .i64 0, .int .i64 0, .int .i64 0, .int .i64 0, .int .i64 0, .int .i64 0], .int .i64 0, .int .i64 9] := rfl
/-- a realm's box with the example -/
def RX (n g : Nat) (w : World) : Prop := g < w.heap.size ∧ ∀ (i : Nat) (v : Value), ([Value.slice (blk n 2) 1 1, Value.slice (blk n 3) 1 1, Value.slice (blk n 4) 1 1, Value.slice (blk n 5) 2 2, Value.slice (blk n 6) 1 1, Value.slice none 0 0, Value.slice none 0 0, Value.slice none 0 0] : List Value)[i]? = some v → w.cell? ⟨g, i, none⟩ = some v
theorem RX.next {n g : Nat} {w w' : World} (h : RX n g w) (hb : Below w.heap.size w w') : RX n g w' := ⟨lt_up hb h.1, fun i v hv => cell_up hb (h.2 i v hv)⟩
theorem RX.new (n : Nat) (w : World) : RX n w.heap.size (w.alloc (.cells #[.slice (blk n 2) 1 1, .slice (blk n 3) 1 1, .slice (blk n 4) 1 1, .slice (blk n 5) 2 2, .slice (blk n 6) 1 1, .slice none 0 0, .slice none 0 0, .slice none 0 0] 31)) := Fl.heap (heap_alloc_new _ _)
set_option maxHeartbeats 12800000 in
set_option maxRecDepth 100000 in
theorem small_x : SmallOk := by
  intro w hE
  show Calls Tryz.prog 8 #[] w fun r w' => r = .returned (.bool true) ∧ Below w.heap.size w w'
  have HE := Lib.hid hE
  clear hE
  go_enter Tryz.func8, Tryz.ntmps8
  go_wp2_with fail
  refine (example_x w).mono ?_
  rintro r w1 ⟨rfl, hx, b1⟩
  obtain ⟨n, hn⟩ : ∃ n, n = w.heap.size := ⟨_, rfl⟩
  rw [← hn] at hx ⊢
  have EX1 := Lib.hid hx
  have B1 := Lib.hid b1
  clear hx b1 hn
  have R1a := Lib.hid ((RX.new n w1).next (Below.new1 (.cells #[.int .i64 0, .int .i64 1, .int .i64 (-1), .int .i64 500, .int .i64 0, .int .i64 0, .int .i64 0, .int .i64 0, .int .i64 59, .int .i64 0, .int .i64 0, .int .i64 (-1), .int .i64 0, .int .i64 1, .int .i64 2] 35)))
  have z1 : (w1.alloc (.cells #[.slice (blk n 2) 1 1, .slice (blk n 3) 1 1, .slice (blk n 4) 1 1, .slice (blk n 5) 2 2, .slice (blk n 6) 1 1, .slice none 0 0, .slice none 0 0, .slice none 0 0] 31)).heap.size = w1.heap.size + 1 := by simp
  have X1a : Hid (BB ((w1.alloc (.cells #[.slice (blk n 2) 1 1, .slice (blk n 3) 1 1, .slice (blk n 4) 1 1, .slice (blk n 5) 2 2, .slice (blk n 6) 1 1, .slice none 0 0, .slice none 0 0, .slice none 0 0] 31)).alloc (.cells #[.int .i64 0, .int .i64 1, .int .i64 (-1), .int .i64 500, .int .i64 0, .int .i64 0, .int .i64 0, .int .i64 0, .int .i64 59, .int .i64 0, .int .i64 0, .int .i64 (-1), .int .i64 0, .int .i64 1, .int .i64 2] 35)) (w1.heap.size + 1) (eB 0 2)) := by show BB _ _ _; rw [← z1]; exact heap_alloc_new _ _
  have B1a := Lib.hid (chain B1.out (chain (Below.new1 (.cells #[.slice (blk n 2) 1 1, .slice (blk n 3) 1 1, .slice (blk n 4) 1 1, .slice (blk n 5) 2 2, .slice (blk n 6) 1 1, .slice none 0 0, .slice none 0 0, .slice none 0 0] 31)) (Below.new1 (.cells #[.int .i64 0, .int .i64 1, .int .i64 (-1), .int .i64 500, .int .i64 0, .int .i64 0, .int .i64 0, .int .i64 0, .int .i64 59, .int .i64 0, .int .i64 0, .int .i64 (-1), .int .i64 0, .int .i64 1, .int .i64 2] 35))))
  have EX1a := Lib.hid (EX1.out.next (chain (Below.new1 (.cells #[.slice (blk n 2) 1 1, .slice (blk n 3) 1 1, .slice (blk n 4) 1 1, .slice (blk n 5) 2 2, .slice (blk n 6) 1 1, .slice none 0 0, .slice none 0 0, .slice none 0 0] 31)) (Below.new1 (.cells #[.int .i64 0, .int .i64 1, .int .i64 (-1), .int .i64 500, .int .i64 0, .int .i64 0, .int .i64 0, .int .i64 0, .int .i64 59, .int .i64 0, .int .i64 0, .int .i64 (-1), .int .i64 0, .int .i64 1, .int .i64 2] 35))))
  clear z1
  have k0 := R1a.out.2 0 _ rfl
  have k1 := R1a.out.2 1 _ rfl
  have k2 := R1a.out.2 2 _ rfl
  have k3 := R1a.out.2 3 _ rfl
  have k4 := R1a.out.2 4 _ rfl
  have k5 := R1a.out.2 5 _ rfl
  have k6 := R1a.out.2 6 _ rfl
  have k7 := R1a.out.2 7 _ rfl
  go_wp2_with fail
  clear k0 k1 k2 k3 k4 k5 k6 k7
  obtain ⟨wl, hwl⟩ : ∃ wl : ByteArray, wl = (⟨((List.append (List.append ([98, 105, 108, 108, 32, 50, 32, 111, 102, 32, 50, 10, 100, 114, 97, 119, 110, 32, 105, 110, 32, 76, 121, 111, 110, 32, 111, 110, 32, 50, 48, 48, 48, 45] : List UInt8) [50, 45, 50, 57, 10, 112, 97, 121, 32, 97, 116, 32, 115, 105, 103, 104, 116, 10, 116, 111, 32, 98, 101, 97, 114, 101, 114, 10, 53, 48, 48, 32, 102, 114]) (List.append [97, 110, 99, 10, 116, 111, 32, 98, 101, 32, 112, 97, 105, 100, 32, 98, 121, 32, 72, 111, 112, 101, 32, 105, 110, 32, 76, 121, 111, 110, 10, 117, 110, 108] [101, 115, 115, 32, 112, 97, 114, 116, 32, 49, 32, 119, 97, 115, 32, 112, 97, 105, 100, 10, 115, 105, 103, 110, 101, 100, 32, 66, 111, 100, 109, 101, 114, 10])).toArray)⟩ : ByteArray) := ⟨_, rfl⟩
  rw [← hwl]
  have hwz : ByteArray.size wl = 136 := by rw [hwl]; rfl
  have HWL : Hid (wl = mkB wantL) := by show _ = _; rw [hwl]; kernel_rfl
  clear hwl
  generalize hwl : ByteArray.mk (List.toArray _) = wl2
  have hw2 : wl = wl2 := by rw [HWL.out, ← hwl]; kernel_rfl
  clear hwl
  subst hw2
  refine (exParse n wl _ EX1a.out (HE.out.next B1a.out) (by omega)).mono ?_
  rintro r w2 ⟨rfl, hu1, cc⟩
  have B2 := Lib.hid (chain B1a.out cc)
  have EX2 := Lib.hid (EX1a.out.next cc)
  have R2 := Lib.hid (R1a.out.next cc)
  have X2 := Lib.hid (X1a.out.next cc)
  clear cc
  as_aux_lemma =>
  rw [HWL.out] at hu1
  have hpw : parseP EX wl = some (eB 0 2, 1) := by rw [HWL.out]; exact ex_parse hu1
  rw [hpw]
  clear hpw
  rw [pv_ex]
  have HU1 := Lib.hid hu1
  clear hu1
  have B2a := Lib.hid (chain B2.out (Below.new1 (.cells #[.int .i64 0, .int .i64 1, .int .i64 (-1), .int .i64 500, .int .i64 0, .int .i64 0, .int .i64 0, .int .i64 0, .int .i64 59, .int .i64 0, .int .i64 0, .int .i64 (-1), .int .i64 0, .int .i64 1, .int .i64 2] 35)))
  have EX2a := Lib.hid (EX2.out.next (Below.new1 (.cells #[.int .i64 0, .int .i64 1, .int .i64 (-1), .int .i64 500, .int .i64 0, .int .i64 0, .int .i64 0, .int .i64 0, .int .i64 59, .int .i64 0, .int .i64 0, .int .i64 (-1), .int .i64 0, .int .i64 1, .int .i64 2] 35)))
  have R2a := Lib.hid (R2.out.next (Below.new1 (.cells #[.int .i64 0, .int .i64 1, .int .i64 (-1), .int .i64 500, .int .i64 0, .int .i64 0, .int .i64 0, .int .i64 0, .int .i64 59, .int .i64 0, .int .i64 0, .int .i64 (-1), .int .i64 0, .int .i64 1, .int .i64 2] 35)))
  have X2a := Lib.hid (X2.out.next (Below.new1 (.cells #[.int .i64 0, .int .i64 1, .int .i64 (-1), .int .i64 500, .int .i64 0, .int .i64 0, .int .i64 0, .int .i64 0, .int .i64 59, .int .i64 0, .int .i64 0, .int .i64 (-1), .int .i64 0, .int .i64 1, .int .i64 2] 35)))
  have Y2a : Hid (BB (w2.alloc (.cells #[.int .i64 0, .int .i64 1, .int .i64 (-1), .int .i64 500, .int .i64 0, .int .i64 0, .int .i64 0, .int .i64 0, .int .i64 59, .int .i64 0, .int .i64 0, .int .i64 (-1), .int .i64 0, .int .i64 1, .int .i64 2] 35)) w2.heap.size (eB 0 2)) := heap_alloc_new _ _
  have hz2 : Hid ((wl ++ ⟨#[10]⟩ : ByteArray).size ≤ 100000) := by
    show _ ≤ _
    rw [ByteArray.size_append, hwz]
    show 136 + 1 ≤ 100000
    omega
  have k0 := R2a.out.2 0 _ rfl
  have k1 := R2a.out.2 1 _ rfl
  have k2 := R2a.out.2 2 _ rfl
  have k3 := R2a.out.2 3 _ rfl
  have k4 := R2a.out.2 4 _ rfl
  have k5 := R2a.out.2 5 _ rfl
  have k6 := R2a.out.2 6 _ rfl
  have k7 := R2a.out.2 7 _ rfl
  go_wp2_with fail
  clear k0 k1 k2 k3 k4 k5 k6 k7
  have q := exParse n (wl ++ ⟨#[10]⟩) _ EX2a.out (HE.out.next B2a.out) hz2.out
  generalize hW : wl ++ (⟨#[10]⟩ : ByteArray) = W at q ⊢
  have hmo : Hid (W = mkB (wantL ++ [10])) := by show _ = _; rw [← hW, HWL.out]; exact mkB_app wantL [10]
  clear hW hz2
  refine (q).mono ?_
  rintro r w3 ⟨rfl, hu2, cc⟩
  have B3 := Lib.hid (chain B2a.out cc)
  have EX3 := Lib.hid (EX2a.out.next cc)
  have R3 := Lib.hid (R2a.out.next cc)
  have X3 := Lib.hid (X2a.out.next cc)
  have Y3 := Lib.hid (Y2a.out.next cc)
  clear cc
  as_aux_lemma =>
  clear hu2 q
  rw [hmo.out, ex_more, pv_no]
  clear hmo
  have B3a := Lib.hid (chain B3.out (Below.new1 (.cells #[.int .i64 0, .int .i64 0, .int .i64 0, .int .i64 0, .int .i64 0, .int .i64 0, .int .i64 0, .int .i64 0, .int .i64 0, .int .i64 0, .int .i64 0, .int .i64 0, .int .i64 0, .int .i64 0, .int .i64 0] 35)))
  have EX3a := Lib.hid (EX3.out.next (Below.new1 (.cells #[.int .i64 0, .int .i64 0, .int .i64 0, .int .i64 0, .int .i64 0, .int .i64 0, .int .i64 0, .int .i64 0, .int .i64 0, .int .i64 0, .int .i64 0, .int .i64 0, .int .i64 0, .int .i64 0, .int .i64 0] 35)))
  have R3a := Lib.hid (R3.out.next (Below.new1 (.cells #[.int .i64 0, .int .i64 0, .int .i64 0, .int .i64 0, .int .i64 0, .int .i64 0, .int .i64 0, .int .i64 0, .int .i64 0, .int .i64 0, .int .i64 0, .int .i64 0, .int .i64 0, .int .i64 0, .int .i64 0] 35)))
  have X3a := Lib.hid (X3.out.next (Below.new1 (.cells #[.int .i64 0, .int .i64 0, .int .i64 0, .int .i64 0, .int .i64 0, .int .i64 0, .int .i64 0, .int .i64 0, .int .i64 0, .int .i64 0, .int .i64 0, .int .i64 0, .int .i64 0, .int .i64 0, .int .i64 0] 35)))
  have Y3a := Lib.hid (Y3.out.next (Below.new1 (.cells #[.int .i64 0, .int .i64 0, .int .i64 0, .int .i64 0, .int .i64 0, .int .i64 0, .int .i64 0, .int .i64 0, .int .i64 0, .int .i64 0, .int .i64 0, .int .i64 0, .int .i64 0, .int .i64 0, .int .i64 0] 35)))
  have V3a : Hid (BB (w3.alloc (.cells #[.int .i64 0, .int .i64 0, .int .i64 0, .int .i64 0, .int .i64 0, .int .i64 0, .int .i64 0, .int .i64 0, .int .i64 0, .int .i64 0, .int .i64 0, .int .i64 0, .int .i64 0, .int .i64 0, .int .i64 0] 35)) w3.heap.size ⟨0, 0, 0, 0, 0, 0, 0, 0, 0, 0, 0, 0, 0, 0, 0⟩) := heap_alloc_new _ _
  have k0 := R3a.out.2 0 _ rfl
  have k1 := R3a.out.2 1 _ rfl
  have k2 := R3a.out.2 2 _ rfl
  have k3 := R3a.out.2 3 _ rfl
  have k4 := R3a.out.2 4 _ rfl
  have k5 := R3a.out.2 5 _ rfl
  have k6 := R3a.out.2 6 _ rfl
  have k7 := R3a.out.2 7 _ rfl
  have x0 := X3a.out.at (i := 0) (v := .int .i64 0) rfl
  have x1 := X3a.out.at (i := 1) (v := .int .i64 1) rfl
  have x2 := X3a.out.at (i := 2) (v := .int .i64 (-1)) rfl
  have x3 := X3a.out.at (i := 3) (v := .int .i64 500) rfl
  have x4 := X3a.out.at (i := 4) (v := .int .i64 0) rfl
  have x5 := X3a.out.at (i := 5) (v := .int .i64 0) rfl
  have x6 := X3a.out.at (i := 6) (v := .int .i64 0) rfl
  have x7 := X3a.out.at (i := 7) (v := .int .i64 0) rfl
  have x8 := X3a.out.at (i := 8) (v := .int .i64 59) rfl
  have x9 := X3a.out.at (i := 9) (v := .int .i64 0) rfl
  have x10 := X3a.out.at (i := 10) (v := .int .i64 0) rfl
  have x11 := X3a.out.at (i := 11) (v := .int .i64 (-1)) rfl
  have x12 := X3a.out.at (i := 12) (v := .int .i64 0) rfl
  have x13 := X3a.out.at (i := 13) (v := .int .i64 1) rfl
  have x14 := X3a.out.at (i := 14) (v := .int .i64 2) rfl
  go_wp2_with fail
  clear k0 k1 k2 k3 k4 k5 k6 k7 x0 x1 x2 x3 x4 x5 x6 x7 x8 x9 x10 x11 x12 x13 x14
  refine (exText n 0 _ EX3a.out (HE.out.next B3a.out)).mono ?_
  rintro r w4 ⟨rfl, cc⟩
  have B4 := Lib.hid (chain B3a.out cc)
  have EX4 := Lib.hid (EX3a.out.next cc)
  have R4 := Lib.hid (R3a.out.next cc)
  have X4 := Lib.hid (X3a.out.next cc)
  have Y4 := Lib.hid (Y3a.out.next cc)
  have V4 := Lib.hid (V3a.out.next cc)
  clear cc
  as_aux_lemma =>
  obtain ⟨T0, hT0⟩ : ∃ T0, T0 = textP EX (eB 0 2) 0 := ⟨_, rfl⟩
  rw [← hT0]
  have HT0 := Lib.hid hT0
  clear hT0
  have x0 := X4.out.at (i := 0) (v := .int .i64 0) rfl
  have x1 := X4.out.at (i := 1) (v := .int .i64 1) rfl
  have x2 := X4.out.at (i := 2) (v := .int .i64 (-1)) rfl
  have x3 := X4.out.at (i := 3) (v := .int .i64 500) rfl
  have x4 := X4.out.at (i := 4) (v := .int .i64 0) rfl
  have x5 := X4.out.at (i := 5) (v := .int .i64 0) rfl
  have x6 := X4.out.at (i := 6) (v := .int .i64 0) rfl
  have x7 := X4.out.at (i := 7) (v := .int .i64 0) rfl
  have x8 := X4.out.at (i := 8) (v := .int .i64 59) rfl
  have x9 := X4.out.at (i := 9) (v := .int .i64 0) rfl
  have x10 := X4.out.at (i := 10) (v := .int .i64 0) rfl
  have x11 := X4.out.at (i := 11) (v := .int .i64 (-1)) rfl
  have x12 := X4.out.at (i := 12) (v := .int .i64 0) rfl
  have x13 := X4.out.at (i := 13) (v := .int .i64 1) rfl
  have x14 := X4.out.at (i := 14) (v := .int .i64 2) rfl
  have B4p := Lib.hid (chain B4.out (Below.new1 (.cells #[.int .i64 0, .int .i64 1, .int .i64 (-1), .int .i64 500, .int .i64 0, .int .i64 0, .int .i64 0, .int .i64 0, .int .i64 59, .int .i64 0, .int .i64 0, .int .i64 (-1), .int .i64 0, .int .i64 1, .int .i64 5] 35)))
  have EX4p := Lib.hid (EX4.out.next (Below.new1 (.cells #[.int .i64 0, .int .i64 1, .int .i64 (-1), .int .i64 500, .int .i64 0, .int .i64 0, .int .i64 0, .int .i64 0, .int .i64 59, .int .i64 0, .int .i64 0, .int .i64 (-1), .int .i64 0, .int .i64 1, .int .i64 5] 35)))
  have R4p := Lib.hid (R4.out.next (Below.new1 (.cells #[.int .i64 0, .int .i64 1, .int .i64 (-1), .int .i64 500, .int .i64 0, .int .i64 0, .int .i64 0, .int .i64 0, .int .i64 59, .int .i64 0, .int .i64 0, .int .i64 (-1), .int .i64 0, .int .i64 1, .int .i64 5] 35)))
  have X4p := Lib.hid (X4.out.next (Below.new1 (.cells #[.int .i64 0, .int .i64 1, .int .i64 (-1), .int .i64 500, .int .i64 0, .int .i64 0, .int .i64 0, .int .i64 0, .int .i64 59, .int .i64 0, .int .i64 0, .int .i64 (-1), .int .i64 0, .int .i64 1, .int .i64 5] 35)))
  have Y4p := Lib.hid (Y4.out.next (Below.new1 (.cells #[.int .i64 0, .int .i64 1, .int .i64 (-1), .int .i64 500, .int .i64 0, .int .i64 0, .int .i64 0, .int .i64 0, .int .i64 59, .int .i64 0, .int .i64 0, .int .i64 (-1), .int .i64 0, .int .i64 1, .int .i64 5] 35)))
  have V4p := Lib.hid (V4.out.next (Below.new1 (.cells #[.int .i64 0, .int .i64 1, .int .i64 (-1), .int .i64 500, .int .i64 0, .int .i64 0, .int .i64 0, .int .i64 0, .int .i64 59, .int .i64 0, .int .i64 0, .int .i64 (-1), .int .i64 0, .int .i64 1, .int .i64 5] 35)))
  have P4p : Hid (BB (w4.alloc (.cells #[.int .i64 0, .int .i64 1, .int .i64 (-1), .int .i64 500, .int .i64 0, .int .i64 0, .int .i64 0, .int .i64 0, .int .i64 59, .int .i64 0, .int .i64 0, .int .i64 (-1), .int .i64 0, .int .i64 1, .int .i64 5] 35)) w4.heap.size (eB 0 5)) := heap_alloc_new _ _
  have xx0 := X4p.out.at (i := 0) (v := .int .i64 0) rfl
  have xx1 := X4p.out.at (i := 1) (v := .int .i64 1) rfl
  have xx2 := X4p.out.at (i := 2) (v := .int .i64 (-1)) rfl
  have xx3 := X4p.out.at (i := 3) (v := .int .i64 500) rfl
  have xx4 := X4p.out.at (i := 4) (v := .int .i64 0) rfl
  have xx5 := X4p.out.at (i := 5) (v := .int .i64 0) rfl
  have xx6 := X4p.out.at (i := 6) (v := .int .i64 0) rfl
  have xx7 := X4p.out.at (i := 7) (v := .int .i64 0) rfl
  have xx8 := X4p.out.at (i := 8) (v := .int .i64 59) rfl
  have xx9 := X4p.out.at (i := 9) (v := .int .i64 0) rfl
  have xx10 := X4p.out.at (i := 10) (v := .int .i64 0) rfl
  have xx11 := X4p.out.at (i := 11) (v := .int .i64 (-1)) rfl
  have xx12 := X4p.out.at (i := 12) (v := .int .i64 0) rfl
  have xx13 := X4p.out.at (i := 13) (v := .int .i64 1) rfl
  have xx14 := X4p.out.at (i := 14) (v := .int .i64 2) rfl
  have B4u := Lib.hid (chain B4p.out (Below.new1 (.cells #[.int .i64 0, .int .i64 1, .int .i64 (-1), .int .i64 500, .int .i64 0, .int .i64 4, .int .i64 0, .int .i64 0, .int .i64 59, .int .i64 0, .int .i64 0, .int .i64 (-1), .int .i64 0, .int .i64 1, .int .i64 2] 35)))
  have EX4u := Lib.hid (EX4p.out.next (Below.new1 (.cells #[.int .i64 0, .int .i64 1, .int .i64 (-1), .int .i64 500, .int .i64 0, .int .i64 4, .int .i64 0, .int .i64 0, .int .i64 59, .int .i64 0, .int .i64 0, .int .i64 (-1), .int .i64 0, .int .i64 1, .int .i64 2] 35)))
  have R4u := Lib.hid (R4p.out.next (Below.new1 (.cells #[.int .i64 0, .int .i64 1, .int .i64 (-1), .int .i64 500, .int .i64 0, .int .i64 4, .int .i64 0, .int .i64 0, .int .i64 59, .int .i64 0, .int .i64 0, .int .i64 (-1), .int .i64 0, .int .i64 1, .int .i64 2] 35)))
  have X4u := Lib.hid (X4p.out.next (Below.new1 (.cells #[.int .i64 0, .int .i64 1, .int .i64 (-1), .int .i64 500, .int .i64 0, .int .i64 4, .int .i64 0, .int .i64 0, .int .i64 59, .int .i64 0, .int .i64 0, .int .i64 (-1), .int .i64 0, .int .i64 1, .int .i64 2] 35)))
  have Y4u := Lib.hid (Y4p.out.next (Below.new1 (.cells #[.int .i64 0, .int .i64 1, .int .i64 (-1), .int .i64 500, .int .i64 0, .int .i64 4, .int .i64 0, .int .i64 0, .int .i64 59, .int .i64 0, .int .i64 0, .int .i64 (-1), .int .i64 0, .int .i64 1, .int .i64 2] 35)))
  have V4u := Lib.hid (V4p.out.next (Below.new1 (.cells #[.int .i64 0, .int .i64 1, .int .i64 (-1), .int .i64 500, .int .i64 0, .int .i64 4, .int .i64 0, .int .i64 0, .int .i64 59, .int .i64 0, .int .i64 0, .int .i64 (-1), .int .i64 0, .int .i64 1, .int .i64 2] 35)))
  have P4u := Lib.hid (P4p.out.next (Below.new1 (.cells #[.int .i64 0, .int .i64 1, .int .i64 (-1), .int .i64 500, .int .i64 0, .int .i64 4, .int .i64 0, .int .i64 0, .int .i64 59, .int .i64 0, .int .i64 0, .int .i64 (-1), .int .i64 0, .int .i64 1, .int .i64 2] 35)))
  have U4u : Hid (BB ((w4.alloc (.cells #[.int .i64 0, .int .i64 1, .int .i64 (-1), .int .i64 500, .int .i64 0, .int .i64 0, .int .i64 0, .int .i64 0, .int .i64 59, .int .i64 0, .int .i64 0, .int .i64 (-1), .int .i64 0, .int .i64 1, .int .i64 5] 35)).alloc (.cells #[.int .i64 0, .int .i64 1, .int .i64 (-1), .int .i64 500, .int .i64 0, .int .i64 4, .int .i64 0, .int .i64 0, .int .i64 59, .int .i64 0, .int .i64 0, .int .i64 (-1), .int .i64 0, .int .i64 1, .int .i64 2] 35)) (w4.heap.size + 1) (eB 4 2)) := BB.new (w4.alloc (.cells #[.int .i64 0, .int .i64 1, .int .i64 (-1), .int .i64 500, .int .i64 0, .int .i64 0, .int .i64 0, .int .i64 0, .int .i64 59, .int .i64 0, .int .i64 0, .int .i64 (-1), .int .i64 0, .int .i64 1, .int .i64 5] 35)) (eB 4 2) (w4.heap.size + 1) (by simp)
  have zk0 := R4u.out.2 0 _ rfl
  have zk1 := R4u.out.2 1 _ rfl
  have zk2 := R4u.out.2 2 _ rfl
  have zk3 := R4u.out.2 3 _ rfl
  have zk4 := R4u.out.2 4 _ rfl
  have zk5 := R4u.out.2 5 _ rfl
  have zk6 := R4u.out.2 6 _ rfl
  have zk7 := R4u.out.2 7 _ rfl
  have zx0 := X4u.out.at (i := 0) (v := .int .i64 0) rfl
  have zx1 := X4u.out.at (i := 1) (v := .int .i64 1) rfl
  have zx2 := X4u.out.at (i := 2) (v := .int .i64 (-1)) rfl
  have zx3 := X4u.out.at (i := 3) (v := .int .i64 500) rfl
  have zx4 := X4u.out.at (i := 4) (v := .int .i64 0) rfl
  have zx5 := X4u.out.at (i := 5) (v := .int .i64 0) rfl
  have zx6 := X4u.out.at (i := 6) (v := .int .i64 0) rfl
  have zx7 := X4u.out.at (i := 7) (v := .int .i64 0) rfl
  have zx8 := X4u.out.at (i := 8) (v := .int .i64 59) rfl
  have zx9 := X4u.out.at (i := 9) (v := .int .i64 0) rfl
  have zx10 := X4u.out.at (i := 10) (v := .int .i64 0) rfl
  have zx11 := X4u.out.at (i := 11) (v := .int .i64 (-1)) rfl
  have zx12 := X4u.out.at (i := 12) (v := .int .i64 0) rfl
  have zx13 := X4u.out.at (i := 13) (v := .int .i64 1) rfl
  have zx14 := X4u.out.at (i := 14) (v := .int .i64 2) rfl
  go_wp2_with fail
  clear x0 x1 x2 x3 x4 x5 x6 x7 x8 x9 x10 x11 x12 x13 x14 xx0 xx1 xx2 xx3 xx4 xx5 xx6 xx7 xx8 xx9 xx10 xx11 xx12 xx13 xx14 zk0 zk1 zk2 zk3 zk4 zk5 zk6 zk7 zx0 zx1 zx2 zx3 zx4 zx5 zx6 zx7 zx8 zx9 zx10 zx11 zx12 zx13 zx14
  refine (exCheck n 0 2 _ EX4u.out).mono ?_
  rintro r w5 ⟨rfl, cc⟩
  have B5 := Lib.hid (chain B4u.out cc)
  have EX5 := Lib.hid (EX4u.out.next cc)
  have R5 := Lib.hid (R4u.out.next cc)
  have X5 := Lib.hid (X4u.out.next cc)
  have Y5 := Lib.hid (Y4u.out.next cc)
  have V5 := Lib.hid (V4u.out.next cc)
  have P5 := Lib.hid (P4u.out.next cc)
  have U5 := Lib.hid (U4u.out.next cc)
  clear cc
  as_aux_lemma =>
  rw [ex_check]
  have k0 := R5.out.2 0 _ rfl
  have k1 := R5.out.2 1 _ rfl
  have k2 := R5.out.2 2 _ rfl
  have k3 := R5.out.2 3 _ rfl
  have k4 := R5.out.2 4 _ rfl
  have k5 := R5.out.2 5 _ rfl
  have k6 := R5.out.2 6 _ rfl
  have k7 := R5.out.2 7 _ rfl
  have x0 := X5.out.at (i := 0) (v := .int .i64 0) rfl
  have x1 := X5.out.at (i := 1) (v := .int .i64 1) rfl
  have x2 := X5.out.at (i := 2) (v := .int .i64 (-1)) rfl
  have x3 := X5.out.at (i := 3) (v := .int .i64 500) rfl
  have x4 := X5.out.at (i := 4) (v := .int .i64 0) rfl
  have x5 := X5.out.at (i := 5) (v := .int .i64 0) rfl
  have x6 := X5.out.at (i := 6) (v := .int .i64 0) rfl
  have x7 := X5.out.at (i := 7) (v := .int .i64 0) rfl
  have x8 := X5.out.at (i := 8) (v := .int .i64 59) rfl
  have x9 := X5.out.at (i := 9) (v := .int .i64 0) rfl
  have x10 := X5.out.at (i := 10) (v := .int .i64 0) rfl
  have x11 := X5.out.at (i := 11) (v := .int .i64 (-1)) rfl
  have x12 := X5.out.at (i := 12) (v := .int .i64 0) rfl
  have x13 := X5.out.at (i := 13) (v := .int .i64 1) rfl
  have x14 := X5.out.at (i := 14) (v := .int .i64 2) rfl
  go_wp2_with fail
  clear k0 k1 k2 k3 k4 k5 k6 k7 x0 x1 x2 x3 x4 x5 x6 x7 x8 x9 x10 x11 x12 x13 x14
  refine (exText n 1 _ EX5.out (HE.out.next B5.out)).mono ?_
  rintro r w6 ⟨rfl, cc⟩
  have B6 := Lib.hid (chain B5.out cc)
  have EX6 := Lib.hid (EX5.out.next cc)
  have R6 := Lib.hid (R5.out.next cc)
  have X6 := Lib.hid (X5.out.next cc)
  have Y6 := Lib.hid (Y5.out.next cc)
  have V6 := Lib.hid (V5.out.next cc)
  have P6 := Lib.hid (P5.out.next cc)
  have U6 := Lib.hid (U5.out.next cc)
  clear cc
  as_aux_lemma =>
  rw [ex_text, ← HWL.out]
  have k0 := R6.out.2 0 _ rfl
  have k1 := R6.out.2 1 _ rfl
  have k2 := R6.out.2 2 _ rfl
  have k3 := R6.out.2 3 _ rfl
  have k4 := R6.out.2 4 _ rfl
  have k5 := R6.out.2 5 _ rfl
  have k6 := R6.out.2 6 _ rfl
  have k7 := R6.out.2 7 _ rfl
  have x0 := X6.out.at (i := 0) (v := .int .i64 0) rfl
  have x1 := X6.out.at (i := 1) (v := .int .i64 1) rfl
  have x2 := X6.out.at (i := 2) (v := .int .i64 (-1)) rfl
  have x3 := X6.out.at (i := 3) (v := .int .i64 500) rfl
  have x4 := X6.out.at (i := 4) (v := .int .i64 0) rfl
  have x5 := X6.out.at (i := 5) (v := .int .i64 0) rfl
  have x6 := X6.out.at (i := 6) (v := .int .i64 0) rfl
  have x7 := X6.out.at (i := 7) (v := .int .i64 0) rfl
  have x8 := X6.out.at (i := 8) (v := .int .i64 59) rfl
  have x9 := X6.out.at (i := 9) (v := .int .i64 0) rfl
  have x10 := X6.out.at (i := 10) (v := .int .i64 0) rfl
  have x11 := X6.out.at (i := 11) (v := .int .i64 (-1)) rfl
  have x12 := X6.out.at (i := 12) (v := .int .i64 0) rfl
  have x13 := X6.out.at (i := 13) (v := .int .i64 1) rfl
  have x14 := X6.out.at (i := 14) (v := .int .i64 2) rfl
  have y0 := Y6.out.at (i := 0) (v := .int .i64 0) rfl
  have y1 := Y6.out.at (i := 1) (v := .int .i64 1) rfl
  have y2 := Y6.out.at (i := 2) (v := .int .i64 (-1)) rfl
  have y3 := Y6.out.at (i := 3) (v := .int .i64 500) rfl
  have y4 := Y6.out.at (i := 4) (v := .int .i64 0) rfl
  have y5 := Y6.out.at (i := 5) (v := .int .i64 0) rfl
  have y6 := Y6.out.at (i := 6) (v := .int .i64 0) rfl
  have y7 := Y6.out.at (i := 7) (v := .int .i64 0) rfl
  have y8 := Y6.out.at (i := 8) (v := .int .i64 59) rfl
  have y9 := Y6.out.at (i := 9) (v := .int .i64 0) rfl
  have y10 := Y6.out.at (i := 10) (v := .int .i64 0) rfl
  have y11 := Y6.out.at (i := 11) (v := .int .i64 (-1)) rfl
  have y12 := Y6.out.at (i := 12) (v := .int .i64 0) rfl
  have y13 := Y6.out.at (i := 13) (v := .int .i64 1) rfl
  have y14 := Y6.out.at (i := 14) (v := .int .i64 2) rfl
  have zT : T0.size ≤ 4000 := by rw [HT0.out]; exact textP_size _ _ _
  go_wp2_with fail
  clear k0 k1 k2 k3 k4 k5 k6 k7 x0 x1 x2 x3 x4 x5 x6 x7 x8 x9 x10 x11 x12 x13 x14 y0 y1 y2 y3 y4 y5 y6 y7 y8 y9 y10 y11 y12 y13 y14
  refine (exAlike n wl T0 _ EX6.out (HE.out.next B6.out) (by omega) (by omega)).mono ?_
  rintro r w7 ⟨rfl, cc⟩
  have B7 := Lib.hid (chain B6.out cc)
  have EX7 := Lib.hid (EX6.out.next cc)
  have R7 := Lib.hid (R6.out.next cc)
  have X7 := Lib.hid (X6.out.next cc)
  have Y7 := Lib.hid (Y6.out.next cc)
  have V7 := Lib.hid (V6.out.next cc)
  have P7 := Lib.hid (P6.out.next cc)
  have U7 := Lib.hid (U6.out.next cc)
  clear cc
  as_aux_lemma =>
  have hal : alikeP EX wl T0 = true := by rw [HWL.out, HT0.out]; exact ex_alike (uniq_all _ _) (uniq_all _ _)
  rw [hal]
  clear hal
  have k0 := R7.out.2 0 _ rfl
  have k1 := R7.out.2 1 _ rfl
  have k2 := R7.out.2 2 _ rfl
  have k3 := R7.out.2 3 _ rfl
  have k4 := R7.out.2 4 _ rfl
  have k5 := R7.out.2 5 _ rfl
  have k6 := R7.out.2 6 _ rfl
  have k7 := R7.out.2 7 _ rfl
  have x0 := X7.out.at (i := 0) (v := .int .i64 0) rfl
  have x1 := X7.out.at (i := 1) (v := .int .i64 1) rfl
  have x2 := X7.out.at (i := 2) (v := .int .i64 (-1)) rfl
  have x3 := X7.out.at (i := 3) (v := .int .i64 500) rfl
  have x4 := X7.out.at (i := 4) (v := .int .i64 0) rfl
  have x5 := X7.out.at (i := 5) (v := .int .i64 0) rfl
  have x6 := X7.out.at (i := 6) (v := .int .i64 0) rfl
  have x7 := X7.out.at (i := 7) (v := .int .i64 0) rfl
  have x8 := X7.out.at (i := 8) (v := .int .i64 59) rfl
  have x9 := X7.out.at (i := 9) (v := .int .i64 0) rfl
  have x10 := X7.out.at (i := 10) (v := .int .i64 0) rfl
  have x11 := X7.out.at (i := 11) (v := .int .i64 (-1)) rfl
  have x12 := X7.out.at (i := 12) (v := .int .i64 0) rfl
  have x13 := X7.out.at (i := 13) (v := .int .i64 1) rfl
  have x14 := X7.out.at (i := 14) (v := .int .i64 2) rfl
  go_wp2_with fail
  clear k0 k1 k2 k3 k4 k5 k6 k7 x0 x1 x2 x3 x4 x5 x6 x7 x8 x9 x10 x11 x12 x13 x14
  refine (exText n 2 _ EX7.out (HE.out.next B7.out)).mono ?_
  rintro r w8 ⟨rfl, cc⟩
  have B8 := Lib.hid (chain B7.out cc)
  have EX8 := Lib.hid (EX7.out.next cc)
  have R8 := Lib.hid (R7.out.next cc)
  have X8 := Lib.hid (X7.out.next cc)
  have Y8 := Lib.hid (Y7.out.next cc)
  have V8 := Lib.hid (V7.out.next cc)
  have P8 := Lib.hid (P7.out.next cc)
  have U8 := Lib.hid (U7.out.next cc)
  clear cc
  as_aux_lemma =>
  rw [ex_none]
  have hem := emp_list
  have k0 := R8.out.2 0 _ rfl
  have k1 := R8.out.2 1 _ rfl
  have k2 := R8.out.2 2 _ rfl
  have k3 := R8.out.2 3 _ rfl
  have k4 := R8.out.2 4 _ rfl
  have k5 := R8.out.2 5 _ rfl
  have k6 := R8.out.2 6 _ rfl
  have k7 := R8.out.2 7 _ rfl
  have p0 := P8.out.at (i := 0) (v := .int .i64 0) rfl
  have p1 := P8.out.at (i := 1) (v := .int .i64 1) rfl
  have p2 := P8.out.at (i := 2) (v := .int .i64 (-1)) rfl
  have p3 := P8.out.at (i := 3) (v := .int .i64 500) rfl
  have p4 := P8.out.at (i := 4) (v := .int .i64 0) rfl
  have p5 := P8.out.at (i := 5) (v := .int .i64 0) rfl
  have p6 := P8.out.at (i := 6) (v := .int .i64 0) rfl
  have p7 := P8.out.at (i := 7) (v := .int .i64 0) rfl
  have p8 := P8.out.at (i := 8) (v := .int .i64 59) rfl
  have p9 := P8.out.at (i := 9) (v := .int .i64 0) rfl
  have p10 := P8.out.at (i := 10) (v := .int .i64 0) rfl
  have p11 := P8.out.at (i := 11) (v := .int .i64 (-1)) rfl
  have p12 := P8.out.at (i := 12) (v := .int .i64 0) rfl
  have p13 := P8.out.at (i := 13) (v := .int .i64 1) rfl
  have p14 := P8.out.at (i := 14) (v := .int .i64 5) rfl
  go_wp2_with fail
  clear k0 k1 k2 k3 k4 k5 k6 k7 p0 p1 p2 p3 p4 p5 p6 p7 p8 p9 p10 p11 p12 p13 p14
  refine (exCheck n 0 5 _ EX8.out).mono ?_
  rintro r w9 ⟨rfl, cc⟩
  have B9 := Lib.hid (chain B8.out cc)
  have EX9 := Lib.hid (EX8.out.next cc)
  have R9 := Lib.hid (R8.out.next cc)
  have X9 := Lib.hid (X8.out.next cc)
  have Y9 := Lib.hid (Y8.out.next cc)
  have V9 := Lib.hid (V8.out.next cc)
  have P9 := Lib.hid (P8.out.next cc)
  have U9 := Lib.hid (U8.out.next cc)
  clear cc
  as_aux_lemma =>
  rw [ex_part]
  have k0 := R9.out.2 0 _ rfl
  have k1 := R9.out.2 1 _ rfl
  have k2 := R9.out.2 2 _ rfl
  have k3 := R9.out.2 3 _ rfl
  have k4 := R9.out.2 4 _ rfl
  have k5 := R9.out.2 5 _ rfl
  have k6 := R9.out.2 6 _ rfl
  have k7 := R9.out.2 7 _ rfl
  have u0 := U9.out.at (i := 0) (v := .int .i64 0) rfl
  have u1 := U9.out.at (i := 1) (v := .int .i64 1) rfl
  have u2 := U9.out.at (i := 2) (v := .int .i64 (-1)) rfl
  have u3 := U9.out.at (i := 3) (v := .int .i64 500) rfl
  have u4 := U9.out.at (i := 4) (v := .int .i64 0) rfl
  have u5 := U9.out.at (i := 5) (v := .int .i64 4) rfl
  have u6 := U9.out.at (i := 6) (v := .int .i64 0) rfl
  have u7 := U9.out.at (i := 7) (v := .int .i64 0) rfl
  have u8 := U9.out.at (i := 8) (v := .int .i64 59) rfl
  have u9 := U9.out.at (i := 9) (v := .int .i64 0) rfl
  have u10 := U9.out.at (i := 10) (v := .int .i64 0) rfl
  have u11 := U9.out.at (i := 11) (v := .int .i64 (-1)) rfl
  have u12 := U9.out.at (i := 12) (v := .int .i64 0) rfl
  have u13 := U9.out.at (i := 13) (v := .int .i64 1) rfl
  have u14 := U9.out.at (i := 14) (v := .int .i64 2) rfl
  go_wp2_with fail
  clear k0 k1 k2 k3 k4 k5 k6 k7 u0 u1 u2 u3 u4 u5 u6 u7 u8 u9 u10 u11 u12 u13 u14
  refine (exCheck n 4 2 _ EX9.out).mono ?_
  rintro r w10 ⟨rfl, cc⟩
  have B10 := Lib.hid (chain B9.out cc)
  have EX10 := Lib.hid (EX9.out.next cc)
  have R10 := Lib.hid (R9.out.next cc)
  have X10 := Lib.hid (X9.out.next cc)
  have Y10 := Lib.hid (Y9.out.next cc)
  have V10 := Lib.hid (V9.out.next cc)
  have P10 := Lib.hid (P9.out.next cc)
  have U10 := Lib.hid (U9.out.next cc)
  clear cc
  as_aux_lemma =>
  rw [ex_us]
  have x0 := X10.out.at (i := 0) (v := .int .i64 0) rfl
  have x1 := X10.out.at (i := 1) (v := .int .i64 1) rfl
  have x2 := X10.out.at (i := 2) (v := .int .i64 (-1)) rfl
  have x3 := X10.out.at (i := 3) (v := .int .i64 500) rfl
  have x4 := X10.out.at (i := 4) (v := .int .i64 0) rfl
  have x5 := X10.out.at (i := 5) (v := .int .i64 0) rfl
  have x6 := X10.out.at (i := 6) (v := .int .i64 0) rfl
  have x7 := X10.out.at (i := 7) (v := .int .i64 0) rfl
  have x8 := X10.out.at (i := 8) (v := .int .i64 59) rfl
  have x9 := X10.out.at (i := 9) (v := .int .i64 0) rfl
  have x10 := X10.out.at (i := 10) (v := .int .i64 0) rfl
  have x11 := X10.out.at (i := 11) (v := .int .i64 (-1)) rfl
  have x12 := X10.out.at (i := 12) (v := .int .i64 0) rfl
  have x13 := X10.out.at (i := 13) (v := .int .i64 1) rfl
  have x14 := X10.out.at (i := 14) (v := .int .i64 2) rfl
  go_wp2_with fail
  clear x0 x1 x2 x3 x4 x5 x6 x7 x8 x9 x10 x11 x12 x13 x14
  refine (ezCheck _).mono ?_
  rintro r w11 ⟨rfl, cc⟩
  have B11 := Lib.hid (chain B10.out cc)
  have EX11 := Lib.hid (EX10.out.next cc)
  have R11 := Lib.hid (R10.out.next cc)
  have X11 := Lib.hid (X10.out.next cc)
  have Y11 := Lib.hid (Y10.out.next cc)
  have V11 := Lib.hid (V10.out.next cc)
  have P11 := Lib.hid (P10.out.next cc)
  have U11 := Lib.hid (U10.out.next cc)
  clear cc
  as_aux_lemma =>
  go_wp2_with fail
  go_ret
  exact ⟨rfl, B11.out⟩
end Go.Proofs.YtcjakgpmompaiaaGreatDoor
