/-
  The reference reads: the payee, the sum, the last lines.
-/
import Derived.Test.YtcjakgpmompaiaaGreatDoorRrB
import Derived.Test.YtcjakgpmompaiaaGreatDoorRdF
import Derived.Test.YtcjakgpmompaiaaGreatDoorWrA
namespace Go.Proofs.YtcjakgpmompaiaaGreatDoor
open Go.RowKit Rl Wd

/-- a box of cells of a type -/
def Bx (T : TypeId) (w : World) (z : Nat) (L : List Value) : Prop := w.heap[z]? = some (.cells L.toArray T (0, 0))
theorem Bx.lt {T : TypeId} {w : World} {h : Nat} {b : List Value} (e : Bx T w h b) : h < w.heap.size := (Array.getElem?_eq_some_iff.1 e).1
theorem Bx.at {T : TypeId} {w : World} {h : Nat} {b : List Value} (e : Bx T w h b) {i : Nat} {v : Value} (hv : b[i]? = some v) : w.cell? ⟨h, i, none⟩ = some v := by
  unfold Bx at e
  unfold World.cell?
  rw [e]
  simp [hv]
theorem Bx.free {T : TypeId} {w : World} {h : Nat} {b : List Value} (e : Bx T w h b) (i : Nat) : w.frozen? ⟨h, i, none⟩ = false := by
  unfold Bx at e
  unfold World.frozen?
  rw [e]
  simp
theorem Bx.all {T : TypeId} {w : World} {h : Nat} {v0 v1 v2 v3 v4 v5 v6 v7 v8 v9 v10 v11 v12 v13 v14 : Value} (e : Bx T w h [v0, v1, v2, v3, v4, v5, v6, v7, v8, v9, v10, v11, v12, v13, v14]) : w.cell? ⟨h, 0, none⟩ = some v0 ∧ w.cell? ⟨h, 1, none⟩ = some v1 ∧ w.cell? ⟨h, 2, none⟩ = some v2 ∧ w.cell? ⟨h, 3, none⟩ = some v3 ∧ w.cell? ⟨h, 4, none⟩ = some v4 ∧ w.cell? ⟨h, 5, none⟩ = some v5 ∧ w.cell? ⟨h, 6, none⟩ = some v6 ∧ w.cell? ⟨h, 7, none⟩ = some v7 ∧ w.cell? ⟨h, 8, none⟩ = some v8 ∧ w.cell? ⟨h, 9, none⟩ = some v9 ∧ w.cell? ⟨h, 10, none⟩ = some v10 ∧ w.cell? ⟨h, 11, none⟩ = some v11 ∧ w.cell? ⟨h, 12, none⟩ = some v12 ∧ w.cell? ⟨h, 13, none⟩ = some v13 ∧ w.cell? ⟨h, 14, none⟩ = some v14 :=
  ⟨e.at (i := 0) rfl, e.at (i := 1) rfl, e.at (i := 2) rfl, e.at (i := 3) rfl, e.at (i := 4) rfl, e.at (i := 5) rfl, e.at (i := 6) rfl, e.at (i := 7) rfl, e.at (i := 8) rfl, e.at (i := 9) rfl, e.at (i := 10) rfl, e.at (i := 11) rfl, e.at (i := 12) rfl, e.at (i := 13) rfl, e.at (i := 14) rfl⟩
theorem Bx.frees {T : TypeId} {w : World} {h : Nat} {b : List Value} (e : Bx T w h b) : w.frozen? ⟨h, 0, none⟩ = false ∧ w.frozen? ⟨h, 1, none⟩ = false ∧ w.frozen? ⟨h, 2, none⟩ = false ∧ w.frozen? ⟨h, 3, none⟩ = false ∧ w.frozen? ⟨h, 4, none⟩ = false ∧ w.frozen? ⟨h, 5, none⟩ = false ∧ w.frozen? ⟨h, 6, none⟩ = false ∧ w.frozen? ⟨h, 7, none⟩ = false ∧ w.frozen? ⟨h, 8, none⟩ = false ∧ w.frozen? ⟨h, 9, none⟩ = false ∧ w.frozen? ⟨h, 10, none⟩ = false ∧ w.frozen? ⟨h, 11, none⟩ = false ∧ w.frozen? ⟨h, 12, none⟩ = false ∧ w.frozen? ⟨h, 13, none⟩ = false ∧ w.frozen? ⟨h, 14, none⟩ = false :=
  ⟨e.free 0, e.free 1, e.free 2, e.free 3, e.free 4, e.free 5, e.free 6, e.free 7, e.free 8, e.free 9, e.free 10, e.free 11, e.free 12, e.free 13, e.free 14⟩
theorem Bx.set {T : TypeId} {w : World} {h : Nat} {b : List Value} (e : Bx T w h b) (i : Nat) (v : Value) : Bx T (w.setCell ⟨h, i, none⟩ v) h (b.set i v) := by
  unfold Bx at e ⊢
  unfold World.setCell
  rw [Array.getElem?_modify]
  simp [e]
theorem Bx.next {T : TypeId} {w w' : World} {h : Nat} {b : List Value} (e : Bx T w h b) (hb : Below w.heap.size w w') : Bx T w' h b := by
  have hl := e.lt
  unfold Bx at e ⊢
  rw [hb.block _ hl]
  exact e
theorem Bx.other {T : TypeId} {w : World} {h g i : Nat} {b : List Value} (e : Bx T w h b) (v : Value) (hg : g ≠ h) : Bx T (w.setCell ⟨g, i, none⟩ v) h b := by
  unfold Bx at e ⊢
  rw [Below.heap_setCell _ _ _ _ (by simpa using Ne.symm hg)]
  exact e
theorem Bx.new (T : TypeId) (w : World) (L : List Value) (n : Nat) (hn : n = w.heap.size) : Bx T (w.alloc (.cells L.toArray T)) n L := by
  subst hn
  unfold Bx
  rw [heap_alloc_new]
theorem RB.put {w : World} {g h i : Nat} {a0 a1 a2 a3 a4 a5 a6 a7 : Option Addr} {c0 c1 c2 c3 c4 c5 c6 c7 : Nat} {R : Rlm} (e : RB w g a0 a1 a2 a3 a4 a5 a6 a7 c0 c1 c2 c3 c4 c5 c6 c7 R) (v : Value) (hg : h ≠ g) : RB (w.setCell ⟨h, i, none⟩ v) g a0 a1 a2 a3 a4 a5 a6 a7 c0 c1 c2 c3 c4 c5 c6 c7 R := by
  have q : ∀ i', (w.setCell ⟨h, i, none⟩ v).cell? ⟨g, i', none⟩ = w.cell? ⟨g, i', none⟩ := fun i' => World.cell?_setCell_far w ⟨h, i, none⟩ ⟨g, i', none⟩ v hg
  exact ⟨by rw [q]; exact e.b0, by rw [q]; exact e.b1, by rw [q]; exact e.b2, by rw [q]; exact e.b3, by rw [q]; exact e.b4, by rw [q]; exact e.b5, by rw [q]; exact e.b6, by rw [q]; exact e.b7⟩
theorem below_put {n z i : Nat} {w w' : World} (e : Below n w w') (h : n ≤ z) (v : Value) : Below n w (w'.setCell ⟨z, i, none⟩ v) := e.setCell (p := ⟨z, i, none⟩) h _
theorem Bx.row {T : TypeId} {w : World} {z : Nat} {L : List Value} (e : Bx T w z L) (hL : L.length = 15) (v0 v1 v2 v3 v4 v5 v6 v7 v8 v9 v10 v11 v12 v13 v14 : Value) : Bx T (((((((((((((((w.setCell ⟨z, 0, none⟩ v0).setCell ⟨z, 1, none⟩ v1).setCell ⟨z, 2, none⟩ v2).setCell ⟨z, 3, none⟩ v3).setCell ⟨z, 4, none⟩ v4).setCell ⟨z, 5, none⟩ v5).setCell ⟨z, 6, none⟩ v6).setCell ⟨z, 7, none⟩ v7).setCell ⟨z, 8, none⟩ v8).setCell ⟨z, 9, none⟩ v9).setCell ⟨z, 10, none⟩ v10).setCell ⟨z, 11, none⟩ v11).setCell ⟨z, 12, none⟩ v12).setCell ⟨z, 13, none⟩ v13).setCell ⟨z, 14, none⟩ v14) z [v0, v1, v2, v3, v4, v5, v6, v7, v8, v9, v10, v11, v12, v13, v14] := by
  have h := (((((((((((((((e.set 0 v0).set 1 v1).set 2 v2).set 3 v3).set 4 v4).set 5 v5).set 6 v6).set 7 v7).set 8 v8).set 9 v9).set 10 v10).set 11 v11).set 12 v12).set 13 v13).set 14 v14)
  match L, hL with
  | [u0, u1, u2, u3, u4, u5, u6, u7, u8, u9, u10, u11, u12, u13, u14], _ => exact h
theorem below_row {n z : Nat} {w w' : World} (e : Below n w w') (h : n ≤ z) (v0 v1 v2 v3 v4 v5 v6 v7 v8 v9 v10 v11 v12 v13 v14 : Value) : Below n w (((((((((((((((w'.setCell ⟨z, 0, none⟩ v0).setCell ⟨z, 1, none⟩ v1).setCell ⟨z, 2, none⟩ v2).setCell ⟨z, 3, none⟩ v3).setCell ⟨z, 4, none⟩ v4).setCell ⟨z, 5, none⟩ v5).setCell ⟨z, 6, none⟩ v6).setCell ⟨z, 7, none⟩ v7).setCell ⟨z, 8, none⟩ v8).setCell ⟨z, 9, none⟩ v9).setCell ⟨z, 10, none⟩ v10).setCell ⟨z, 11, none⟩ v11).setCell ⟨z, 12, none⟩ v12).setCell ⟨z, 13, none⟩ v13).setCell ⟨z, 14, none⟩ v14) :=
  below_put (below_put (below_put (below_put (below_put (below_put (below_put (below_put (below_put (below_put (below_put (below_put (below_put (below_put (below_put (e) h v0) h v1) h v2) h v3) h v4) h v5) h v6) h v7) h v8) h v9) h v10) h v11) h v12) h v13) h v14

set_option maxHeartbeats 60000000 in
set_option maxRecDepth 100000 in
theorem RreadPayee_x {a0 a1 a2 a3 a4 a5 a6 a7 : Option Addr} {c0 c1 c2 c3 c4 c5 c6 c7 : Nat} {R : Rlm} (b : Bl) (s : B) (w : World) (hr : RS w a0 a1 a2 a3 a4 a5 a6 a7 c0 c1 c2 c3 c4 c5 c6 c7 R) (hF : Fit R) (hs : s.size ≤ 100000) (hor : bits BinOp.or IntKind.i64 b.flags 4 = b.flags + 4) (hpe : b.payee = -1) :
    Calls Tryz.prog 29 #[.agg #[.slice a0 R.cur.length c0, .slice a1 R.cities.length c1, .slice a2 R.groups.length c2, .slice a3 R.firms.length c3, .slice a4 R.orders.length c4, .slice a5 R.usances.length c5, .slice a6 R.rates.length c6, .slice a7 R.halts.length c7], vB b, .string s] w fun r w' => ∃ (p : Int) (o : Bool), r = .returned (vB { b with payee := p, flags := if o = true then b.flags + 4 else b.flags }) ∧ Hid (PyR R s.data.toList p o) ∧ Below w.heap.size w w' := by
  have HP := Lib.hid hpe
  clear hpe
  have HRS := Lib.hid hr
  have HFT := Lib.hid hF
  have NXR : Hid (w.heap.size + 1 ≠ w.heap.size) := Nat.succ_ne_self _
  have NXZ : Hid (w.heap.size + 1 ≠ w.heap.size + 2) := Nat.ne_of_lt (Nat.lt_succ_self _)
  have NX : Hid (w.heap.size ≤ w.heap.size + 1) := Nat.le_succ _
  have NZ : Hid (w.heap.size ≤ w.heap.size + 2) := Nat.le_add_right _ _
  clear hr hF
  go_enter Tryz.func29, Tryz.ntmps29
  have RB0 := Lib.hid (((RB.new w a0 a1 a2 a3 a4 a5 a6 a7 c0 c1 c2 c3 c4 c5 c6 c7 R).next (Below.new1 (.cells #[.int .i64 b.drawer, .int .i64 b.drawee, .int .i64 b.payee, .int .i64 b.sum, .int .i64 b.cur, .int .i64 b.tk, .int .i64 b.tn, .int .i64 b.tu, .int .i64 b.day, .int .i64 b.city, .int .i64 b.pay, .int .i64 b.need, .int .i64 b.rate, .int .i64 b.flags, .int .i64 b.parts] 35))).next (Below.new1 (.cells #[.int .i64 0, .int .i64 0, .int .i64 0, .int .i64 0, .int .i64 0, .int .i64 0, .int .i64 0, .int .i64 0, .int .i64 0, .int .i64 0, .int .i64 0, .int .i64 0, .int .i64 0, .int .i64 0, .int .i64 0] 35)))
  have X0 : Hid (Bx 35 (((w.alloc (.cells #[.slice a0 R.cur.length c0, .slice a1 R.cities.length c1, .slice a2 R.groups.length c2, .slice a3 R.firms.length c3, .slice a4 R.orders.length c4, .slice a5 R.usances.length c5, .slice a6 R.rates.length c6, .slice a7 R.halts.length c7] 31)).alloc (.cells #[.int .i64 b.drawer, .int .i64 b.drawee, .int .i64 b.payee, .int .i64 b.sum, .int .i64 b.cur, .int .i64 b.tk, .int .i64 b.tn, .int .i64 b.tu, .int .i64 b.day, .int .i64 b.city, .int .i64 b.pay, .int .i64 b.need, .int .i64 b.rate, .int .i64 b.flags, .int .i64 b.parts] 35)).alloc (.cells #[.int .i64 0, .int .i64 0, .int .i64 0, .int .i64 0, .int .i64 0, .int .i64 0, .int .i64 0, .int .i64 0, .int .i64 0, .int .i64 0, .int .i64 0, .int .i64 0, .int .i64 0, .int .i64 0, .int .i64 0] 35)) (w.heap.size + 1) [.int .i64 b.drawer, .int .i64 b.drawee, .int .i64 b.payee, .int .i64 b.sum, .int .i64 b.cur, .int .i64 b.tk, .int .i64 b.tn, .int .i64 b.tu, .int .i64 b.day, .int .i64 b.city, .int .i64 b.pay, .int .i64 b.need, .int .i64 b.rate, .int .i64 b.flags, .int .i64 b.parts]) := (Bx.new 35 (w.alloc (.cells #[.slice a0 R.cur.length c0, .slice a1 R.cities.length c1, .slice a2 R.groups.length c2, .slice a3 R.firms.length c3, .slice a4 R.orders.length c4, .slice a5 R.usances.length c5, .slice a6 R.rates.length c6, .slice a7 R.halts.length c7] 31)) [.int .i64 b.drawer, .int .i64 b.drawee, .int .i64 b.payee, .int .i64 b.sum, .int .i64 b.cur, .int .i64 b.tk, .int .i64 b.tn, .int .i64 b.tu, .int .i64 b.day, .int .i64 b.city, .int .i64 b.pay, .int .i64 b.need, .int .i64 b.rate, .int .i64 b.flags, .int .i64 b.parts] (w.heap.size + 1) (by simp)).next (Below.new1 (.cells #[.int .i64 0, .int .i64 0, .int .i64 0, .int .i64 0, .int .i64 0, .int .i64 0, .int .i64 0, .int .i64 0, .int .i64 0, .int .i64 0, .int .i64 0, .int .i64 0, .int .i64 0, .int .i64 0, .int .i64 0] 35))
  have Z0 : Hid (Bx 35 (((w.alloc (.cells #[.slice a0 R.cur.length c0, .slice a1 R.cities.length c1, .slice a2 R.groups.length c2, .slice a3 R.firms.length c3, .slice a4 R.orders.length c4, .slice a5 R.usances.length c5, .slice a6 R.rates.length c6, .slice a7 R.halts.length c7] 31)).alloc (.cells #[.int .i64 b.drawer, .int .i64 b.drawee, .int .i64 b.payee, .int .i64 b.sum, .int .i64 b.cur, .int .i64 b.tk, .int .i64 b.tn, .int .i64 b.tu, .int .i64 b.day, .int .i64 b.city, .int .i64 b.pay, .int .i64 b.need, .int .i64 b.rate, .int .i64 b.flags, .int .i64 b.parts] 35)).alloc (.cells #[.int .i64 0, .int .i64 0, .int .i64 0, .int .i64 0, .int .i64 0, .int .i64 0, .int .i64 0, .int .i64 0, .int .i64 0, .int .i64 0, .int .i64 0, .int .i64 0, .int .i64 0, .int .i64 0, .int .i64 0] 35)) (w.heap.size + 2) [.int .i64 0, .int .i64 0, .int .i64 0, .int .i64 0, .int .i64 0, .int .i64 0, .int .i64 0, .int .i64 0, .int .i64 0, .int .i64 0, .int .i64 0, .int .i64 0, .int .i64 0, .int .i64 0, .int .i64 0]) := Bx.new 35 ((w.alloc (.cells #[.slice a0 R.cur.length c0, .slice a1 R.cities.length c1, .slice a2 R.groups.length c2, .slice a3 R.firms.length c3, .slice a4 R.orders.length c4, .slice a5 R.usances.length c5, .slice a6 R.rates.length c6, .slice a7 R.halts.length c7] 31)).alloc (.cells #[.int .i64 b.drawer, .int .i64 b.drawee, .int .i64 b.payee, .int .i64 b.sum, .int .i64 b.cur, .int .i64 b.tk, .int .i64 b.tn, .int .i64 b.tu, .int .i64 b.day, .int .i64 b.city, .int .i64 b.pay, .int .i64 b.need, .int .i64 b.rate, .int .i64 b.flags, .int .i64 b.parts] 35)) [.int .i64 0, .int .i64 0, .int .i64 0, .int .i64 0, .int .i64 0, .int .i64 0, .int .i64 0, .int .i64 0, .int .i64 0, .int .i64 0, .int .i64 0, .int .i64 0, .int .i64 0, .int .i64 0, .int .i64 0] (w.heap.size + 2) (by simp)
  have B0 : Hid (Below w.heap.size w (((w.alloc (.cells #[.slice a0 R.cur.length c0, .slice a1 R.cities.length c1, .slice a2 R.groups.length c2, .slice a3 R.firms.length c3, .slice a4 R.orders.length c4, .slice a5 R.usances.length c5, .slice a6 R.rates.length c6, .slice a7 R.halts.length c7] 31)).alloc (.cells #[.int .i64 b.drawer, .int .i64 b.drawee, .int .i64 b.payee, .int .i64 b.sum, .int .i64 b.cur, .int .i64 b.tk, .int .i64 b.tn, .int .i64 b.tu, .int .i64 b.day, .int .i64 b.city, .int .i64 b.pay, .int .i64 b.need, .int .i64 b.rate, .int .i64 b.flags, .int .i64 b.parts] 35)).alloc (.cells #[.int .i64 0, .int .i64 0, .int .i64 0, .int .i64 0, .int .i64 0, .int .i64 0, .int .i64 0, .int .i64 0, .int .i64 0, .int .i64 0, .int .i64 0, .int .i64 0, .int .i64 0, .int .i64 0, .int .i64 0] 35))) := chain (chain (Below.new1 (.cells #[.slice a0 R.cur.length c0, .slice a1 R.cities.length c1, .slice a2 R.groups.length c2, .slice a3 R.firms.length c3, .slice a4 R.orders.length c4, .slice a5 R.usances.length c5, .slice a6 R.rates.length c6, .slice a7 R.halts.length c7] 31)) (Below.new1 (.cells #[.int .i64 b.drawer, .int .i64 b.drawee, .int .i64 b.payee, .int .i64 b.sum, .int .i64 b.cur, .int .i64 b.tk, .int .i64 b.tn, .int .i64 b.tu, .int .i64 b.day, .int .i64 b.city, .int .i64 b.pay, .int .i64 b.need, .int .i64 b.rate, .int .i64 b.flags, .int .i64 b.parts] 35))) (Below.new1 (.cells #[.int .i64 0, .int .i64 0, .int .i64 0, .int .i64 0, .int .i64 0, .int .i64 0, .int .i64 0, .int .i64 0, .int .i64 0, .int .i64 0, .int .i64 0, .int .i64 0, .int .i64 0, .int .i64 0, .int .i64 0] 35))
  go_wp2_with fail
  refine (Reat_r s ⟨#[116, 111, 32, 98, 101, 97, 114, 101, 114, 10]⟩ _ (by omega) (by decide)).mono ?_
  rintro r wx ⟨t1, q1, rfl, Tt1, Qq1, zt1, rfl⟩
  cases q1
  case true =>
    obtain ⟨x0, x1, x2, x3, x4, x5, x6, x7, x8, x9, x10, x11, x12, x13, x14⟩ := X0.out.all
    go_wp2
    have CF := Bx.new 35 ((w.alloc (.cells #[.slice a0 R.cur.length c0, .slice a1 R.cities.length c1, .slice a2 R.groups.length c2, .slice a3 R.firms.length c3, .slice a4 R.orders.length c4, .slice a5 R.usances.length c5, .slice a6 R.rates.length c6, .slice a7 R.halts.length c7] 31)).alloc (.cells #[.int .i64 b.drawer, .int .i64 b.drawee, .int .i64 b.payee, .int .i64 b.sum, .int .i64 b.cur, .int .i64 b.tk, .int .i64 b.tn, .int .i64 b.tu, .int .i64 b.day, .int .i64 b.city, .int .i64 b.pay, .int .i64 b.need, .int .i64 b.rate, .int .i64 b.flags, .int .i64 b.parts] 35)) [.int .i64 b.drawer, .int .i64 b.drawee, .int .i64 b.payee, .int .i64 b.sum, .int .i64 b.cur, .int .i64 b.tk, .int .i64 b.tn, .int .i64 b.tu, .int .i64 b.day, .int .i64 b.city, .int .i64 b.pay, .int .i64 b.need, .int .i64 b.rate, .int .i64 b.flags, .int .i64 b.parts] (w.heap.size + 2) (by simp)
    have BF := chain (chain (Below.new1 (w := w) (.cells #[.slice a0 R.cur.length c0, .slice a1 R.cities.length c1, .slice a2 R.groups.length c2, .slice a3 R.firms.length c3, .slice a4 R.orders.length c4, .slice a5 R.usances.length c5, .slice a6 R.rates.length c6, .slice a7 R.halts.length c7] 31)) (Below.new1 (.cells #[.int .i64 b.drawer, .int .i64 b.drawee, .int .i64 b.payee, .int .i64 b.sum, .int .i64 b.cur, .int .i64 b.tk, .int .i64 b.tn, .int .i64 b.tu, .int .i64 b.day, .int .i64 b.city, .int .i64 b.pay, .int .i64 b.need, .int .i64 b.rate, .int .i64 b.flags, .int .i64 b.parts] 35))) (Below.new1 (.cells #[.int .i64 b.drawer, .int .i64 b.drawee, .int .i64 b.payee, .int .i64 b.sum, .int .i64 b.cur, .int .i64 b.tk, .int .i64 b.tn, .int .i64 b.tu, .int .i64 b.day, .int .i64 b.city, .int .i64 b.pay, .int .i64 b.need, .int .i64 b.rate, .int .i64 b.flags, .int .i64 b.parts] 35))
    obtain ⟨r0, r1, r2, r3, r4, r5, r6, r7, r8, r9, r10, r11, r12, r13, r14⟩ := CF.all
    exact bodyPost_ret (v := .agg #[.int .i64 b.drawer, .int .i64 b.drawee, .int .i64 b.payee, .int .i64 b.sum, .int .i64 b.cur, .int .i64 b.tk, .int .i64 b.tn, .int .i64 b.tu, .int .i64 b.day, .int .i64 b.city, .int .i64 b.pay, .int .i64 b.need, .int .i64 b.rate, .int .i64 b.flags, .int .i64 b.parts]) (by simp [results, Tryz.results29, go_sem, r0, r1, r2, r3, r4, r5, r6, r7, r8, r9, r10, r11, r12, r13, r14]) rfl ⟨-1, false, by rw [← HP.out]; rfl, pyR_bearer Qq1.out.symm, BF⟩
  case false =>
    go_wp2_with fail
    refine (Reat_r s ⟨#[116, 111, 32]⟩ _ (by omega) (by decide)).mono ?_
    rintro r wx ⟨t2, q2, rfl, Tt2, Qq2, zt2, rfl⟩
    go_wp2_with fail
    refine (Rword_r t2 _ (by omega)).mono ?_
    rintro r w1 ⟨nm, t3, rfl, Nnm, znm, zt3, cc⟩
    have RB1 := Lib.hid (RB0.out.next cc)
    have X1 := Lib.hid (X0.out.next cc)
    have Z1 := Lib.hid (Z0.out.next cc)
    have B1 := Lib.hid (chain B0.out cc)
    clear cc
    obtain ⟨k0, k1, k2, k3, k4, k5, k6, k7⟩ := RB1.out
    go_wp2_with fail
    clear k0 k1 k2 k3 k4 k5 k6 k7
    refine (rFirm_x nm _ (HRS.out.next B1.out) HFT.out).mono ?_
    rintro r w2 ⟨rfl, cc⟩
    have RB2 := Lib.hid (RB1.out.next cc)
    have X2 := Lib.hid (X1.out.next cc)
    have Z2 := Lib.hid (Z1.out.next cc)
    have B2 := Lib.hid (chain B1.out cc)
    clear cc
    obtain ⟨v, hv⟩ : ∃ v : Int, v = findV (R.firms.map Frm.nm) nm := ⟨_, rfl⟩
    rw [← hv]
    replace hv := Lib.hid hv
    have ys := X2.out.at (i := 2) rfl
    have fs := X2.out.free 2
    have RB3 := Lib.hid (RB2.out.put (i := 2) (.int .i64 v) NXR.out)
    have X3 := Lib.hid (X2.out.set 2 (.int .i64 v))
    have Z3 := Lib.hid (Z2.out.other (i := 2) (.int .i64 v) NXZ.out)
    have B3 := Lib.hid (below_put (i := 2) B2.out NX.out (.int .i64 v))
    go_wp2_with fail
    clear ys fs
    refine (Reat_r t3 ⟨#[32, 110, 111, 116]⟩ _ (by omega) (by decide)).mono ?_
    rintro r wx ⟨t4, q4, rfl, Tt4, Qq4, zt4, rfl⟩
    cases q4
    case true =>
      have x13 := X3.out.at (i := 13) rfl
      have ys := X3.out.at (i := 13) rfl
      have fs := X3.out.free 13
      have RB4 := Lib.hid (RB3.out.put (i := 13) (.int .i64 (b.flags + 4)) NXR.out)
      have X4 := Lib.hid (X3.out.set 13 (.int .i64 (b.flags + 4)))
      have Z4 := Lib.hid (Z3.out.other (i := 13) (.int .i64 (b.flags + 4)) NXZ.out)
      have B4 := Lib.hid (below_put (i := 13) B3.out NX.out (.int .i64 (b.flags + 4)))
      obtain ⟨x0, x1, x2, x3, x4, x5, x6, x7, x8, x9, x10, x11, x12, x13, x14⟩ := X4.out.all
      obtain ⟨y0, y1, y2, y3, y4, y5, y6, y7, y8, y9, y10, y11, y12, y13, y14⟩ := Z4.out.all
      obtain ⟨f0, f1, f2, f3, f4, f5, f6, f7, f8, f9, f10, f11, f12, f13, f14⟩ := Z4.out.frees
      go_wp2
      have CF := Z4.out.row rfl (.int .i64 b.drawer) (.int .i64 b.drawee) (.int .i64 v) (.int .i64 b.sum) (.int .i64 b.cur) (.int .i64 b.tk) (.int .i64 b.tn) (.int .i64 b.tu) (.int .i64 b.day) (.int .i64 b.city) (.int .i64 b.pay) (.int .i64 b.need) (.int .i64 b.rate) (.int .i64 (b.flags + 4)) (.int .i64 b.parts)
      have BF := below_row B4.out NZ.out (.int .i64 b.drawer) (.int .i64 b.drawee) (.int .i64 v) (.int .i64 b.sum) (.int .i64 b.cur) (.int .i64 b.tk) (.int .i64 b.tn) (.int .i64 b.tu) (.int .i64 b.day) (.int .i64 b.city) (.int .i64 b.pay) (.int .i64 b.need) (.int .i64 b.rate) (.int .i64 (b.flags + 4)) (.int .i64 b.parts)
      obtain ⟨r0, r1, r2, r3, r4, r5, r6, r7, r8, r9, r10, r11, r12, r13, r14⟩ := CF.all
      exact bodyPost_ret (v := .agg #[.int .i64 b.drawer, .int .i64 b.drawee, .int .i64 v, .int .i64 b.sum, .int .i64 b.cur, .int .i64 b.tk, .int .i64 b.tn, .int .i64 b.tu, .int .i64 b.day, .int .i64 b.city, .int .i64 b.pay, .int .i64 b.need, .int .i64 b.rate, .int .i64 (b.flags + 4), .int .i64 b.parts]) (by simp [results, Tryz.results29, go_sem, r0, r1, r2, r3, r4, r5, r6, r7, r8, r9, r10, r11, r12, r13, r14]) rfl ⟨v, true, rfl, pyR_firm Qq1.out.symm (by have h := Nnm.out.firm (R := R); rw [Tt2.out] at h; rw [show mkB nm.data.toList = nm from rfl, ← hv.out] at h; exact h) Qq4.out, BF⟩
    case false =>
      obtain ⟨x0, x1, x2, x3, x4, x5, x6, x7, x8, x9, x10, x11, x12, x13, x14⟩ := X3.out.all
      obtain ⟨y0, y1, y2, y3, y4, y5, y6, y7, y8, y9, y10, y11, y12, y13, y14⟩ := Z3.out.all
      obtain ⟨f0, f1, f2, f3, f4, f5, f6, f7, f8, f9, f10, f11, f12, f13, f14⟩ := Z3.out.frees
      go_wp2
      have CF := Z3.out.row rfl (.int .i64 b.drawer) (.int .i64 b.drawee) (.int .i64 v) (.int .i64 b.sum) (.int .i64 b.cur) (.int .i64 b.tk) (.int .i64 b.tn) (.int .i64 b.tu) (.int .i64 b.day) (.int .i64 b.city) (.int .i64 b.pay) (.int .i64 b.need) (.int .i64 b.rate) (.int .i64 b.flags) (.int .i64 b.parts)
      have BF := below_row B3.out NZ.out (.int .i64 b.drawer) (.int .i64 b.drawee) (.int .i64 v) (.int .i64 b.sum) (.int .i64 b.cur) (.int .i64 b.tk) (.int .i64 b.tn) (.int .i64 b.tu) (.int .i64 b.day) (.int .i64 b.city) (.int .i64 b.pay) (.int .i64 b.need) (.int .i64 b.rate) (.int .i64 b.flags) (.int .i64 b.parts)
      obtain ⟨r0, r1, r2, r3, r4, r5, r6, r7, r8, r9, r10, r11, r12, r13, r14⟩ := CF.all
      exact bodyPost_ret (v := .agg #[.int .i64 b.drawer, .int .i64 b.drawee, .int .i64 v, .int .i64 b.sum, .int .i64 b.cur, .int .i64 b.tk, .int .i64 b.tn, .int .i64 b.tu, .int .i64 b.day, .int .i64 b.city, .int .i64 b.pay, .int .i64 b.need, .int .i64 b.rate, .int .i64 b.flags, .int .i64 b.parts]) (by simp [results, Tryz.results29, go_sem, r0, r1, r2, r3, r4, r5, r6, r7, r8, r9, r10, r11, r12, r13, r14]) rfl ⟨v, false, rfl, pyR_firm Qq1.out.symm (by have h := Nnm.out.firm (R := R); rw [Tt2.out] at h; rw [show mkB nm.data.toList = nm from rfl, ← hv.out] at h; exact h) Qq4.out, BF⟩

set_option maxHeartbeats 60000000 in
set_option maxRecDepth 100000 in
theorem RreadLast_x {a0 a1 a2 a3 a4 a5 a6 a7 : Option Addr} {c0 c1 c2 c3 c4 c5 c6 c7 : Nat} {R : Rlm} (b : Bl) (s : B) (w : World) (hr : RS w a0 a1 a2 a3 a4 a5 a6 a7 c0 c1 c2 c3 c4 c5 c6 c7 R) (hF : Fit R) (hs : s.size ≤ 100000) (hor : bits BinOp.or IntKind.i64 b.flags 2 = b.flags + 2) (hnd : b.need = -1) :
    Calls Tryz.prog 32 #[.agg #[.slice a0 R.cur.length c0, .slice a1 R.cities.length c1, .slice a2 R.groups.length c2, .slice a3 R.firms.length c3, .slice a4 R.orders.length c4, .slice a5 R.usances.length c5, .slice a6 R.rates.length c6, .slice a7 R.halts.length c7], vB b, .string s] w fun r w' => ∃ (n : Int) (d : Bool) (x : Int), r = .returned (vB { b with need := n, flags := if d = true then b.flags + 2 else b.flags, drawer := x }) ∧ Hid (LsR R s.data.toList n d x) ∧ Below w.heap.size w w' := by
  have HN := Lib.hid hnd
  clear hnd
  have HRS := Lib.hid hr
  have HFT := Lib.hid hF
  have NXR : Hid (w.heap.size + 1 ≠ w.heap.size) := Nat.succ_ne_self _
  have NXZ : Hid (w.heap.size + 1 ≠ w.heap.size + 2) := Nat.ne_of_lt (Nat.lt_succ_self _)
  have NX : Hid (w.heap.size ≤ w.heap.size + 1) := Nat.le_succ _
  have NZ : Hid (w.heap.size ≤ w.heap.size + 2) := Nat.le_add_right _ _
  clear hr hF
  go_enter Tryz.func32, Tryz.ntmps32
  have RB0 := Lib.hid (((RB.new w a0 a1 a2 a3 a4 a5 a6 a7 c0 c1 c2 c3 c4 c5 c6 c7 R).next (Below.new1 (.cells #[.int .i64 b.drawer, .int .i64 b.drawee, .int .i64 b.payee, .int .i64 b.sum, .int .i64 b.cur, .int .i64 b.tk, .int .i64 b.tn, .int .i64 b.tu, .int .i64 b.day, .int .i64 b.city, .int .i64 b.pay, .int .i64 b.need, .int .i64 b.rate, .int .i64 b.flags, .int .i64 b.parts] 35))).next (Below.new1 (.cells #[.int .i64 0, .int .i64 0, .int .i64 0, .int .i64 0, .int .i64 0, .int .i64 0, .int .i64 0, .int .i64 0, .int .i64 0, .int .i64 0, .int .i64 0, .int .i64 0, .int .i64 0, .int .i64 0, .int .i64 0] 35)))
  have X0 : Hid (Bx 35 (((w.alloc (.cells #[.slice a0 R.cur.length c0, .slice a1 R.cities.length c1, .slice a2 R.groups.length c2, .slice a3 R.firms.length c3, .slice a4 R.orders.length c4, .slice a5 R.usances.length c5, .slice a6 R.rates.length c6, .slice a7 R.halts.length c7] 31)).alloc (.cells #[.int .i64 b.drawer, .int .i64 b.drawee, .int .i64 b.payee, .int .i64 b.sum, .int .i64 b.cur, .int .i64 b.tk, .int .i64 b.tn, .int .i64 b.tu, .int .i64 b.day, .int .i64 b.city, .int .i64 b.pay, .int .i64 b.need, .int .i64 b.rate, .int .i64 b.flags, .int .i64 b.parts] 35)).alloc (.cells #[.int .i64 0, .int .i64 0, .int .i64 0, .int .i64 0, .int .i64 0, .int .i64 0, .int .i64 0, .int .i64 0, .int .i64 0, .int .i64 0, .int .i64 0, .int .i64 0, .int .i64 0, .int .i64 0, .int .i64 0] 35)) (w.heap.size + 1) [.int .i64 b.drawer, .int .i64 b.drawee, .int .i64 b.payee, .int .i64 b.sum, .int .i64 b.cur, .int .i64 b.tk, .int .i64 b.tn, .int .i64 b.tu, .int .i64 b.day, .int .i64 b.city, .int .i64 b.pay, .int .i64 b.need, .int .i64 b.rate, .int .i64 b.flags, .int .i64 b.parts]) := (Bx.new 35 (w.alloc (.cells #[.slice a0 R.cur.length c0, .slice a1 R.cities.length c1, .slice a2 R.groups.length c2, .slice a3 R.firms.length c3, .slice a4 R.orders.length c4, .slice a5 R.usances.length c5, .slice a6 R.rates.length c6, .slice a7 R.halts.length c7] 31)) [.int .i64 b.drawer, .int .i64 b.drawee, .int .i64 b.payee, .int .i64 b.sum, .int .i64 b.cur, .int .i64 b.tk, .int .i64 b.tn, .int .i64 b.tu, .int .i64 b.day, .int .i64 b.city, .int .i64 b.pay, .int .i64 b.need, .int .i64 b.rate, .int .i64 b.flags, .int .i64 b.parts] (w.heap.size + 1) (by simp)).next (Below.new1 (.cells #[.int .i64 0, .int .i64 0, .int .i64 0, .int .i64 0, .int .i64 0, .int .i64 0, .int .i64 0, .int .i64 0, .int .i64 0, .int .i64 0, .int .i64 0, .int .i64 0, .int .i64 0, .int .i64 0, .int .i64 0] 35))
  have Z0 : Hid (Bx 35 (((w.alloc (.cells #[.slice a0 R.cur.length c0, .slice a1 R.cities.length c1, .slice a2 R.groups.length c2, .slice a3 R.firms.length c3, .slice a4 R.orders.length c4, .slice a5 R.usances.length c5, .slice a6 R.rates.length c6, .slice a7 R.halts.length c7] 31)).alloc (.cells #[.int .i64 b.drawer, .int .i64 b.drawee, .int .i64 b.payee, .int .i64 b.sum, .int .i64 b.cur, .int .i64 b.tk, .int .i64 b.tn, .int .i64 b.tu, .int .i64 b.day, .int .i64 b.city, .int .i64 b.pay, .int .i64 b.need, .int .i64 b.rate, .int .i64 b.flags, .int .i64 b.parts] 35)).alloc (.cells #[.int .i64 0, .int .i64 0, .int .i64 0, .int .i64 0, .int .i64 0, .int .i64 0, .int .i64 0, .int .i64 0, .int .i64 0, .int .i64 0, .int .i64 0, .int .i64 0, .int .i64 0, .int .i64 0, .int .i64 0] 35)) (w.heap.size + 2) [.int .i64 0, .int .i64 0, .int .i64 0, .int .i64 0, .int .i64 0, .int .i64 0, .int .i64 0, .int .i64 0, .int .i64 0, .int .i64 0, .int .i64 0, .int .i64 0, .int .i64 0, .int .i64 0, .int .i64 0]) := Bx.new 35 ((w.alloc (.cells #[.slice a0 R.cur.length c0, .slice a1 R.cities.length c1, .slice a2 R.groups.length c2, .slice a3 R.firms.length c3, .slice a4 R.orders.length c4, .slice a5 R.usances.length c5, .slice a6 R.rates.length c6, .slice a7 R.halts.length c7] 31)).alloc (.cells #[.int .i64 b.drawer, .int .i64 b.drawee, .int .i64 b.payee, .int .i64 b.sum, .int .i64 b.cur, .int .i64 b.tk, .int .i64 b.tn, .int .i64 b.tu, .int .i64 b.day, .int .i64 b.city, .int .i64 b.pay, .int .i64 b.need, .int .i64 b.rate, .int .i64 b.flags, .int .i64 b.parts] 35)) [.int .i64 0, .int .i64 0, .int .i64 0, .int .i64 0, .int .i64 0, .int .i64 0, .int .i64 0, .int .i64 0, .int .i64 0, .int .i64 0, .int .i64 0, .int .i64 0, .int .i64 0, .int .i64 0, .int .i64 0] (w.heap.size + 2) (by simp)
  have B0 : Hid (Below w.heap.size w (((w.alloc (.cells #[.slice a0 R.cur.length c0, .slice a1 R.cities.length c1, .slice a2 R.groups.length c2, .slice a3 R.firms.length c3, .slice a4 R.orders.length c4, .slice a5 R.usances.length c5, .slice a6 R.rates.length c6, .slice a7 R.halts.length c7] 31)).alloc (.cells #[.int .i64 b.drawer, .int .i64 b.drawee, .int .i64 b.payee, .int .i64 b.sum, .int .i64 b.cur, .int .i64 b.tk, .int .i64 b.tn, .int .i64 b.tu, .int .i64 b.day, .int .i64 b.city, .int .i64 b.pay, .int .i64 b.need, .int .i64 b.rate, .int .i64 b.flags, .int .i64 b.parts] 35)).alloc (.cells #[.int .i64 0, .int .i64 0, .int .i64 0, .int .i64 0, .int .i64 0, .int .i64 0, .int .i64 0, .int .i64 0, .int .i64 0, .int .i64 0, .int .i64 0, .int .i64 0, .int .i64 0, .int .i64 0, .int .i64 0] 35))) := chain (chain (Below.new1 (.cells #[.slice a0 R.cur.length c0, .slice a1 R.cities.length c1, .slice a2 R.groups.length c2, .slice a3 R.firms.length c3, .slice a4 R.orders.length c4, .slice a5 R.usances.length c5, .slice a6 R.rates.length c6, .slice a7 R.halts.length c7] 31)) (Below.new1 (.cells #[.int .i64 b.drawer, .int .i64 b.drawee, .int .i64 b.payee, .int .i64 b.sum, .int .i64 b.cur, .int .i64 b.tk, .int .i64 b.tn, .int .i64 b.tu, .int .i64 b.day, .int .i64 b.city, .int .i64 b.pay, .int .i64 b.need, .int .i64 b.rate, .int .i64 b.flags, .int .i64 b.parts] 35))) (Below.new1 (.cells #[.int .i64 0, .int .i64 0, .int .i64 0, .int .i64 0, .int .i64 0, .int .i64 0, .int .i64 0, .int .i64 0, .int .i64 0, .int .i64 0, .int .i64 0, .int .i64 0, .int .i64 0, .int .i64 0, .int .i64 0] 35))
  go_wp2_with fail
  refine (Reat_r s ⟨#[117, 110, 108, 101, 115, 115, 32]⟩ _ (by omega) (by decide)).mono ?_
  rintro r wx ⟨t1, q1, rfl, Tt1, Qq1, zt1, rfl⟩
  go_upto_if 22 with fail
  go_cut [2] (fun v wx => ∃ s1 : B, v = .string s1 ∧ Hid (s1.data.toList = if q1 = true then lineP s.data.toList else s.data.toList) ∧ s1.size ≤ s.size ∧ RB wx w.heap.size a0 a1 a2 a3 a4 a5 a6 a7 c0 c1 c2 c3 c4 c5 c6 c7 R ∧ Bx 35 wx (w.heap.size + 1) [.int .i64 b.drawer, .int .i64 b.drawee, .int .i64 b.payee, .int .i64 b.sum, .int .i64 b.cur, .int .i64 b.tk, .int .i64 b.tn, .int .i64 b.tu, .int .i64 b.day, .int .i64 b.city, .int .i64 b.pay, .int .i64 b.need, .int .i64 b.rate, .int .i64 b.flags, .int .i64 b.parts] ∧ Bx 35 wx (w.heap.size + 2) [.int .i64 0, .int .i64 0, .int .i64 0, .int .i64 0, .int .i64 0, .int .i64 0, .int .i64 0, .int .i64 0, .int .i64 0, .int .i64 0, .int .i64 0, .int .i64 0, .int .i64 0, .int .i64 0, .int .i64 0] ∧ Below w.heap.size w wx)
  case first =>
    cases q1
    case true =>
      go_wp2_with fail
      refine (Rline_r s _ (by omega)).mono ?_
      rintro r w1 ⟨l1, rfl, Ll1, zl1, cc⟩
      have RB1 := Lib.hid (RB0.out.next cc)
      have X1 := Lib.hid (X0.out.next cc)
      have Z1 := Lib.hid (Z0.out.next cc)
      have B1 := Lib.hid (chain B0.out cc)
      clear cc
      go_wp2_with fail
      go_meet
      exact ⟨l1, rfl, Ll1.out.trans (if_pos trivial).symm, zl1, RB1.out, X1.out, Z1.out, B1.out⟩
    case false =>
      go_wp2_with fail
      go_meet
      exact ⟨s, rfl, (if_neg (by decide)).symm, Nat.le_refl _, RB0.out, X0.out, Z0.out, B0.out⟩
  case rest =>
    obtain ⟨s1, rfl, E1, zs1, ebr, ebx, ebz, ebb⟩ := hcut
    have RB1 := Lib.hid ebr
    have X1 := Lib.hid ebx
    have Z1 := Lib.hid ebz
    have B1 := Lib.hid ebb
    clear ebr ebx ebz ebb
    go_wp2_with fail
    refine (Reat_r s1 ⟨#[105, 110, 32, 110, 101, 101, 100, 32, 97, 115, 107, 32]⟩ _ (by omega) (by decide)).mono ?_
    rintro r wx ⟨t2, q2, rfl, Tt2, Qq2, zt2, rfl⟩
    go_upto_if 30 with fail
    go_cut [2] (fun v wx => ∃ (s3 : B) (n : Int), v = .string s3 ∧ Hid (∃ s2 : L8, if q2 = true then FirmR R (tk s1.data.toList tNeed) n s2 ∧ s3.data.toList = lineP s1.data.toList else n = -1 ∧ s3.data.toList = s1.data.toList) ∧ s3.size ≤ s1.size ∧ RB wx w.heap.size a0 a1 a2 a3 a4 a5 a6 a7 c0 c1 c2 c3 c4 c5 c6 c7 R ∧ Bx 35 wx (w.heap.size + 1) [.int .i64 b.drawer, .int .i64 b.drawee, .int .i64 b.payee, .int .i64 b.sum, .int .i64 b.cur, .int .i64 b.tk, .int .i64 b.tn, .int .i64 b.tu, .int .i64 b.day, .int .i64 b.city, .int .i64 b.pay, .int .i64 n, .int .i64 b.rate, .int .i64 b.flags, .int .i64 b.parts] ∧ Bx 35 wx (w.heap.size + 2) [.int .i64 0, .int .i64 0, .int .i64 0, .int .i64 0, .int .i64 0, .int .i64 0, .int .i64 0, .int .i64 0, .int .i64 0, .int .i64 0, .int .i64 0, .int .i64 0, .int .i64 0, .int .i64 0, .int .i64 0] ∧ Below w.heap.size w wx)
    case first =>
      cases q2
      case true =>
        go_wp2_with fail
        refine (Rword_r t2 _ (by omega)).mono ?_
        rintro r w2 ⟨nm, t3, rfl, Nnm, znm, zt3, cc⟩
        have RB2 := Lib.hid (RB1.out.next cc)
        have X2 := Lib.hid (X1.out.next cc)
        have Z2 := Lib.hid (Z1.out.next cc)
        have B2 := Lib.hid (chain B1.out cc)
        clear cc
        obtain ⟨k0, k1, k2, k3, k4, k5, k6, k7⟩ := RB2.out
        go_wp2_with fail
        clear k0 k1 k2 k3 k4 k5 k6 k7
        refine (rFirm_x nm _ (HRS.out.next B2.out) HFT.out).mono ?_
        rintro r w3 ⟨rfl, cc⟩
        have RB3 := Lib.hid (RB2.out.next cc)
        have X3 := Lib.hid (X2.out.next cc)
        have Z3 := Lib.hid (Z2.out.next cc)
        have B3 := Lib.hid (chain B2.out cc)
        clear cc
        obtain ⟨v, hv⟩ : ∃ v : Int, v = findV (R.firms.map Frm.nm) nm := ⟨_, rfl⟩
        rw [← hv]
        replace hv := Lib.hid hv
        have ys := X3.out.at (i := 11) rfl
        have fs := X3.out.free 11
        have RB4 := Lib.hid (RB3.out.put (i := 11) (.int .i64 v) NXR.out)
        have X4 := Lib.hid (X3.out.set 11 (.int .i64 v))
        have Z4 := Lib.hid (Z3.out.other (i := 11) (.int .i64 v) NXZ.out)
        have B4 := Lib.hid (below_put (i := 11) B3.out NX.out (.int .i64 v))
        go_wp2_with fail
        clear ys fs
        refine (Rline_r s1 _ (by omega)).mono ?_
        rintro r w5 ⟨l3, rfl, Ll3, zl3, cc⟩
        have RB5 := Lib.hid (RB4.out.next cc)
        have X5 := Lib.hid (X4.out.next cc)
        have Z5 := Lib.hid (Z4.out.next cc)
        have B5 := Lib.hid (chain B4.out cc)
        clear cc
        go_wp2_with fail
        go_meet
        exact ⟨l3, v, rfl, ⟨t3.data.toList, by rw [if_pos trivial]; exact ⟨by have h := Nnm.out.firm (R := R); rw [Tt2.out] at h; rw [show mkB nm.data.toList = nm from rfl, ← hv.out] at h; exact h, Ll3.out⟩⟩, zl3, RB5.out, X5.out, Z5.out, B5.out⟩
      case false =>
        go_wp2_with fail
        go_meet
        exact ⟨s1, b.need, rfl, ⟨[], by rw [if_neg (by decide)]; exact ⟨HN.out, rfl⟩⟩, Nat.le_refl _, RB1.out, X1.out, Z1.out, B1.out⟩
    case rest =>
      obtain ⟨s3, n, rfl, E2, zs3, ebr, ebx, ebz, ebb⟩ := hcut
      have RB2 := Lib.hid ebr
      have X2 := Lib.hid ebx
      have Z2 := Lib.hid ebz
      have B2 := Lib.hid ebb
      clear ebr ebx ebz ebb
      go_wp2_with fail
      refine (Reat_r s3 ⟨#[119, 105, 116, 104, 111, 117, 116, 32]⟩ _ (by omega) (by decide)).mono ?_
      rintro r wx ⟨t4, q4, rfl, Tt4, Qq4, zt4, rfl⟩
      go_upto_if 47 with fail
      go_cut [2] (fun v wx => ∃ (s4 : B) (fl : Int), v = .string s4 ∧ Hid (fl = if q4 = true then b.flags + 2 else b.flags) ∧ Hid (s4.data.toList = if q4 = true then lineP s3.data.toList else s3.data.toList) ∧ s4.size ≤ s3.size ∧ RB wx w.heap.size a0 a1 a2 a3 a4 a5 a6 a7 c0 c1 c2 c3 c4 c5 c6 c7 R ∧ Bx 35 wx (w.heap.size + 1) [.int .i64 b.drawer, .int .i64 b.drawee, .int .i64 b.payee, .int .i64 b.sum, .int .i64 b.cur, .int .i64 b.tk, .int .i64 b.tn, .int .i64 b.tu, .int .i64 b.day, .int .i64 b.city, .int .i64 b.pay, .int .i64 n, .int .i64 b.rate, .int .i64 fl, .int .i64 b.parts] ∧ Bx 35 wx (w.heap.size + 2) [.int .i64 0, .int .i64 0, .int .i64 0, .int .i64 0, .int .i64 0, .int .i64 0, .int .i64 0, .int .i64 0, .int .i64 0, .int .i64 0, .int .i64 0, .int .i64 0, .int .i64 0, .int .i64 0, .int .i64 0] ∧ Below w.heap.size w wx)
      case first =>
        cases q4
        case true =>
          have x13 := X2.out.at (i := 13) rfl
          have ys := X2.out.at (i := 13) rfl
          have fs := X2.out.free 13
          have RB3 := Lib.hid (RB2.out.put (i := 13) (.int .i64 (b.flags + 2)) NXR.out)
          have X3 := Lib.hid (X2.out.set 13 (.int .i64 (b.flags + 2)))
          have Z3 := Lib.hid (Z2.out.other (i := 13) (.int .i64 (b.flags + 2)) NXZ.out)
          have B3 := Lib.hid (below_put (i := 13) B2.out NX.out (.int .i64 (b.flags + 2)))
          go_wp2_with fail
          clear x13 ys fs
          refine (Rline_r s3 _ (by omega)).mono ?_
          rintro r w4 ⟨l5, rfl, Ll5, zl5, cc⟩
          have RB4 := Lib.hid (RB3.out.next cc)
          have X4 := Lib.hid (X3.out.next cc)
          have Z4 := Lib.hid (Z3.out.next cc)
          have B4 := Lib.hid (chain B3.out cc)
          clear cc
          go_wp2_with fail
          go_meet
          exact ⟨l5, b.flags + 2, rfl, (if_pos trivial).symm, Ll5.out.trans (if_pos trivial).symm, zl5, RB4.out, X4.out, Z4.out, B4.out⟩
        case false =>
          go_wp2_with fail
          go_meet
          exact ⟨s3, b.flags, rfl, (if_neg (by decide)).symm, (if_neg (by decide)).symm, Nat.le_refl _, RB2.out, X2.out, Z2.out, B2.out⟩
      case rest =>
        obtain ⟨s4, fl, rfl, EF, E4, zs4, ebr, ebx, ebz, ebb⟩ := hcut
        have RB3 := Lib.hid ebr
        have X3 := Lib.hid ebx
        have Z3 := Lib.hid ebz
        have B3 := Lib.hid ebb
        clear ebr ebx ebz ebb
        go_wp2_with fail
        refine (Reat_r s4 ⟨#[115, 105, 103, 110, 101, 100, 32]⟩ _ (by omega) (by decide)).mono ?_
        rintro r wx ⟨t6, q6, rfl, Tt6, Qq6, zt6, rfl⟩
        go_wp2_with fail
        refine (Rword_r t6 _ (by omega)).mono ?_
        rintro r w4 ⟨nd, t7, rfl, Nnd, znd, zt7, cc⟩
        have RB4 := Lib.hid (RB3.out.next cc)
        have X4 := Lib.hid (X3.out.next cc)
        have Z4 := Lib.hid (Z3.out.next cc)
        have B4 := Lib.hid (chain B3.out cc)
        clear cc
        obtain ⟨k0, k1, k2, k3, k4, k5, k6, k7⟩ := RB4.out
        go_wp2_with fail
        clear k0 k1 k2 k3 k4 k5 k6 k7
        refine (rFirm_x nd _ (HRS.out.next B4.out) HFT.out).mono ?_
        rintro r w5 ⟨rfl, cc⟩
        have RB5 := Lib.hid (RB4.out.next cc)
        have X5 := Lib.hid (X4.out.next cc)
        have Z5 := Lib.hid (Z4.out.next cc)
        have B5 := Lib.hid (chain B4.out cc)
        clear cc
        obtain ⟨x, hx⟩ : ∃ v : Int, v = findV (R.firms.map Frm.nm) nd := ⟨_, rfl⟩
        rw [← hx]
        replace hx := Lib.hid hx
        have ys := X5.out.at (i := 0) rfl
        have fs := X5.out.free 0
        have RB6 := Lib.hid (RB5.out.put (i := 0) (.int .i64 x) NXR.out)
        have X6 := Lib.hid (X5.out.set 0 (.int .i64 x))
        have Z6 := Lib.hid (Z5.out.other (i := 0) (.int .i64 x) NXZ.out)
        have B6 := Lib.hid (below_put (i := 0) B5.out NX.out (.int .i64 x))
        obtain ⟨s2, hs2⟩ := E2.out
        have E2b := Lib.hid hs2
        clear hs2 E2
        obtain ⟨x0, x1, x2, x3, x4, x5, x6, x7, x8, x9, x10, x11, x12, x13, x14⟩ := X6.out.all
        obtain ⟨y0, y1, y2, y3, y4, y5, y6, y7, y8, y9, y10, y11, y12, y13, y14⟩ := Z6.out.all
        obtain ⟨f0, f1, f2, f3, f4, f5, f6, f7, f8, f9, f10, f11, f12, f13, f14⟩ := Z6.out.frees
        go_wp2
        have CF := Z6.out.row rfl (.int .i64 x) (.int .i64 b.drawee) (.int .i64 b.payee) (.int .i64 b.sum) (.int .i64 b.cur) (.int .i64 b.tk) (.int .i64 b.tn) (.int .i64 b.tu) (.int .i64 b.day) (.int .i64 b.city) (.int .i64 b.pay) (.int .i64 n) (.int .i64 b.rate) (.int .i64 fl) (.int .i64 b.parts)
        have BF := below_row B6.out NZ.out (.int .i64 x) (.int .i64 b.drawee) (.int .i64 b.payee) (.int .i64 b.sum) (.int .i64 b.cur) (.int .i64 b.tk) (.int .i64 b.tn) (.int .i64 b.tu) (.int .i64 b.day) (.int .i64 b.city) (.int .i64 b.pay) (.int .i64 n) (.int .i64 b.rate) (.int .i64 fl) (.int .i64 b.parts)
        obtain ⟨r0, r1, r2, r3, r4, r5, r6, r7, r8, r9, r10, r11, r12, r13, r14⟩ := CF.all
        exact bodyPost_ret (v := .agg #[.int .i64 x, .int .i64 b.drawee, .int .i64 b.payee, .int .i64 b.sum, .int .i64 b.cur, .int .i64 b.tk, .int .i64 b.tn, .int .i64 b.tu, .int .i64 b.day, .int .i64 b.city, .int .i64 b.pay, .int .i64 n, .int .i64 b.rate, .int .i64 fl, .int .i64 b.parts]) (by simp [results, Tryz.results32, go_sem, r0, r1, r2, r3, r4, r5, r6, r7, r8, r9, r10, r11, r12, r13, r14]) rfl ⟨n, q4, x, by rw [← EF.out], lsR_of Qq1.out E1.out Qq2.out E2b.out Qq4.out E4.out (by have h := Nnd.out.firm (R := R); rw [Tt6.out] at h; rw [show mkB nd.data.toList = nd from rfl, ← hx.out] at h; exact h), BF⟩
end Go.Proofs.YtcjakgpmompaiaaGreatDoor
