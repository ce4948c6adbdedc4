/-
  allongelaw01.small: the examples of the documentation hold.
-/
import Derived.Test.YtcoebgkkniggeaaSame
import Derived.Test.YtcoebgkkniggeaaEnc2
namespace Go.Proofs.Ytcoebgkkniggeaa
open Go.RowKit

theorem own_shape {w : World} {base : Nat} {e : TypeId} {v : Value} {n : Nat} {xs : List Value} (h : w.ownsRow base e 1 v n xs) (hn : 0 < n) :
    ∃ g cap, v = .slice (some ⟨g, 0, none⟩) n cap ∧ g < w.heap.size ∧ ∀ j x, xs[j]? = some x → w.cell? ⟨g, j, none⟩ = some x := by
  have hc := fun g => h.cells (g := g)
  rcases h.2 with ⟨_, h0⟩ | ⟨g, cap, cur, rfl, _, hg, _⟩
  · omega
  · refine ⟨g, cap, rfl, (Array.getElem?_eq_some_iff.1 hg).1, fun j x hx => ?_⟩
    have := hc g rfl j x hx
    rwa [show (⟨g, 0, none⟩ : Addr).add j = ⟨g, j, none⟩ from by unfold Addr.add; split <;> simp_all] at this

/-- what the call owns reads as a list -/
theorem own_at {w : World} {base : Nat} {e : TypeId} {v : Value} {xs : List Value} (h : w.ownsRow base e 1 v xs.length xs) : SlAt w v xs := by
  by_cases hn : 0 < xs.length
  · obtain ⟨g, cap, rfl, hg, hc⟩ := own_shape h hn
    exact ⟨_, cap, rfl, fun j x hx => ⟨g, 0, rfl, hg, by rw [Nat.zero_add]; exact hc j x hx⟩⟩
  · rcases h.2 with ⟨rfl, h0⟩ | ⟨g, cap, cur, rfl, _, hg, _⟩
    · exact ⟨none, 0, by rw [h0], fun j x hx => by have := (List.getElem?_eq_some_iff.1 hx).1; omega⟩
    · exact ⟨_, cap, rfl, fun j x hx => by have := (List.getElem?_eq_some_iff.1 hx).1; omega⟩

theorem below_cell {w w' : World} {g j : Nat} {x : Value} (hb : Below w.heap.size w w') (hg : g < w.heap.size) (h : w.cell? ⟨g, j, none⟩ = some x) : w'.cell? ⟨g, j, none⟩ = some x := (hb.cell (p := ⟨g, j, none⟩) hg).trans h

theorem ex1 : Wm.rdL Wm.rdI [50, 59, 52, 59, 48, 59, 120] = some ([4, 0], [120]) := by decide +kernel
theorem ex2 : Wm.rdL Wm.rdS [50, 59, 48, 59, 49, 59, 120] = some ([[], [120]], []) := by decide +kernel
theorem ex3 : Wm.rdI [45, 48, 59] = none := by decide +kernel
theorem ex4 : Wm.rdI [57, 50, 50, 51, 51, 55, 50, 48, 51, 54, 56, 53, 52, 55, 55, 53, 56, 48, 56, 59] = none := by decide +kernel
theorem ex5 : Wm.rdI [45, 57, 50, 50, 51, 51, 55, 50, 48, 51, 54, 56, 53, 52, 55, 55, 53, 56, 48, 56, 59] = some (-9223372036854775808, []) := by decide +kernel
theorem ex6 : Wm.encI (-7) = [45, 55, 59] := by decide +kernel
theorem ex7 : Wm.encS [97, 98, 59] = [51, 59, 97, 98, 59] := by decide +kernel
theorem ex8 : Wm.encL Wm.encI [4, 0] = [50, 59, 52, 59, 48, 59] := by decide +kernel
theorem ex9 : Wm.encL Wm.encS [[], [120]] = [50, 59, 48, 59, 49, 59, 120] := by decide +kernel

theorem slat_two (w : World) (x y : Value) (T : TypeId) : SlAt (w.alloc (.cells #[x, y] T)) (.slice (some ⟨w.heap.size, 0, none⟩) 2 2) [x, y] := by
  refine ⟨_, 2, rfl, fun j u hu => ⟨w.heap.size, 0, rfl, by simp, ?_⟩⟩
  rw [Nat.zero_add, World.cell?_alloc_new]
  rw [← hu]
  simp

/-- the contracts at the examples -/
theorem c1 (w : World) : Calls Try.prog 21 #[.string ⟨#[50, 59, 52, 59, 48, 59, 120]⟩] w fun e w' => ∃ g cap, e = .returned (.tuple #[.slice (some ⟨g, 0, none⟩) 2 cap, .string ⟨#[120]⟩, .bool true]) ∧
    g < w'.heap.size ∧ w'.cell? ⟨g, 0, none⟩ = some (.int .i64 4) ∧ w'.cell? ⟨g, 1, none⟩ = some (.int .i64 0) ∧ Below w.heap.size w w' := by
  refine (ReadInts_x ⟨#[50, 59, 52, 59, 48, 59, 120]⟩ w (by decide)).mono ?_
  rintro e w' ⟨v, he, hown, hb⟩
  rw [show (⟨#[50, 59, 52, 59, 48, 59, 120]⟩ : ByteArray).data.toList = [50, 59, 52, 59, 48, 59, 120] from rfl, ex1] at he hown
  obtain ⟨g, cap, rfl, hg, hc⟩ := own_shape hown (by decide)
  exact ⟨g, cap, he, hg, hc 0 _ rfl, hc 1 _ rfl, hb⟩
theorem c2 (w : World) : Calls Try.prog 24 #[.string ⟨#[50, 59, 48, 59, 49, 59, 120]⟩] w fun e w' => ∃ g cap, e = .returned (.tuple #[.slice (some ⟨g, 0, none⟩) 2 cap, .string ⟨#[]⟩, .bool true]) ∧
    g < w'.heap.size ∧ w'.cell? ⟨g, 1, none⟩ = some (.string ⟨#[120]⟩) ∧ Below w.heap.size w w' := by
  refine (ReadStrings_x ⟨#[50, 59, 48, 59, 49, 59, 120]⟩ w (by decide)).mono ?_
  rintro e w' ⟨v, he, hown, hb⟩
  rw [show (⟨#[50, 59, 48, 59, 49, 59, 120]⟩ : ByteArray).data.toList = [50, 59, 48, 59, 49, 59, 120] from rfl, ex2] at he hown
  obtain ⟨g, cap, rfl, hg, hc⟩ := own_shape hown (by decide)
  exact ⟨g, cap, he, hg, hc 1 _ rfl, hb⟩
theorem c3 (w : World) : Calls Try.prog 17 #[.string ⟨#[45, 48, 59]⟩] w fun e w' => e = .returned (.tuple #[.int .i64 0, .string ⟨#[]⟩, .bool false]) ∧ Below w.heap.size w w' := by
  refine (ReadInt_x _ w (by decide)).mono ?_
  rintro e w' ⟨he, hb⟩
  rw [show (⟨#[45, 48, 59]⟩ : ByteArray).data.toList = [45, 48, 59] from rfl, ex3] at he
  exact ⟨he, hb⟩
theorem c4 (w : World) : Calls Try.prog 17 #[.string ⟨#[57, 50, 50, 51, 51, 55, 50, 48, 51, 54, 56, 53, 52, 55, 55, 53, 56, 48, 56, 59]⟩] w fun e w' => e = .returned (.tuple #[.int .i64 0, .string ⟨#[]⟩, .bool false]) ∧ Below w.heap.size w w' := by
  refine (ReadInt_x _ w (by decide)).mono ?_
  rintro e w' ⟨he, hb⟩
  rw [show (⟨#[57, 50, 50, 51, 51, 55, 50, 48, 51, 54, 56, 53, 52, 55, 55, 53, 56, 48, 56, 59]⟩ : ByteArray).data.toList = [57, 50, 50, 51, 51, 55, 50, 48, 51, 54, 56, 53, 52, 55, 55, 53, 56, 48, 56, 59] from rfl, ex4] at he
  exact ⟨he, hb⟩
theorem c5 (w : World) : Calls Try.prog 17 #[.string ⟨#[45, 57, 50, 50, 51, 51, 55, 50, 48, 51, 54, 56, 53, 52, 55, 55, 53, 56, 48, 56, 59]⟩] w fun e w' => e = .returned (.tuple #[.int .i64 (-9223372036854775808), .string ⟨#[]⟩, .bool true]) ∧ Below w.heap.size w w' := by
  refine (ReadInt_x _ w (by decide)).mono ?_
  rintro e w' ⟨he, hb⟩
  rw [show (⟨#[45, 57, 50, 50, 51, 51, 55, 50, 48, 51, 54, 56, 53, 52, 55, 55, 53, 56, 48, 56, 59]⟩ : ByteArray).data.toList = [45, 57, 50, 50, 51, 51, 55, 50, 48, 51, 54, 56, 53, 52, 55, 55, 53, 56, 48, 56, 59] from rfl, ex5] at he
  exact ⟨he, hb⟩
theorem c6 (w : World) : Calls Try.prog 9 #[.int .i64 (-7)] w fun e w' => e = .returned (.string ⟨#[45, 55, 59]⟩) ∧ Below w.heap.size w w' := by
  have h := Int_x (-7) w ⟨by decide, by decide⟩
  rw [ex6] at h
  exact h
theorem c7 (w : World) : Calls Try.prog 11 #[.string ⟨#[97, 98, 59]⟩] w fun e w' => e = .returned (.string ⟨#[51, 59, 97, 98, 59]⟩) ∧ Below w.heap.size w w' := by
  have h := String_x ⟨#[97, 98, 59]⟩ w (by decide)
  rw [show (⟨#[97, 98, 59]⟩ : ByteArray).data.toList = [97, 98, 59] from rfl, ex7] at h
  exact h
theorem c8 (v : Value) (w : World) (h : SlAt w v [.int .i64 4, .int .i64 0]) : Calls Try.prog 13 #[v] w fun e w' => e = .returned (.string ⟨#[50, 59, 52, 59, 48, 59]⟩) ∧ Below w.heap.size w w' := by
  have h := Ints_x v [4, 0] w h (by intro z hz; simp at hz; rcases hz with rfl | rfl <;> exact ⟨by decide, by decide⟩) (by rw [ex8]; decide) (by decide)
  rw [ex8] at h
  exact h
theorem c9 (v : Value) (w : World) (h : SlAt w v [.string ⟨#[]⟩, .string ⟨#[120]⟩]) : Calls Try.prog 15 #[v] w fun e w' => e = .returned (.string ⟨#[50, 59, 48, 59, 49, 59, 120]⟩) ∧ Below w.heap.size w w' := by
  have h := Strings_x v [[], [120]] w h (by rw [ex9]; decide) (by decide)
  rw [ex9] at h
  exact h

set_option maxHeartbeats 1600000 in
set_option maxRecDepth 100000 in
theorem small_x (w : World) : Calls Try.prog 8 #[] w fun e w' => e = .returned (.bool true) ∧ Below w.heap.size w w' := by
  go_enter Try.func8, Try.ntmps8
  go_wp2_with fail
  refine (c1 _).mono ?_
  rintro e w1 ⟨g, cap, rfl, hg, hc0, hc1, hb1⟩
  go_wp2_with fail
  refine (c2 _).mono ?_
  rintro e w2 ⟨g2, cap2, rfl, hg2, hd1, hb2⟩
  go_wp2_with fail
  refine (c3 _).mono ?_
  rintro e w3 ⟨rfl, hb3⟩
  go_wp2_with fail
  refine (c4 _).mono ?_
  rintro e w4 ⟨rfl, hb4⟩
  go_wp2_with fail
  refine (c5 _).mono ?_
  rintro e w5 ⟨rfl, hb5⟩
  go_wp2_with fail
  refine (c6 _).mono ?_
  rintro e w6 ⟨rfl, hb6⟩
  go_wp2_with fail
  refine (c7 _).mono ?_
  rintro e w7 ⟨rfl, hb7⟩
  go_wp2_with fail
  refine (c8 _ _ (slat_two _ _ _ _)).mono ?_
  rintro e w8 ⟨rfl, hb8⟩
  go_wp2_with fail
  refine (c9 _ _ (slat_two _ _ _ _)).mono ?_
  rintro e w9 ⟨rfl, hb9⟩
  have h28 : Below w2.heap.size w2 w7 := by
    have s2 := hb3.size; have s3 := hb4.size; have s4 := hb5.size; have s5 := hb6.size
    exact (((hb3.trans (hb4.mono s2)).trans (hb5.mono (by omega))).trans (hb6.mono (by omega))).trans (hb7.mono (by omega))
  have h29 : Below w2.heap.size w2 w9 := by
    have s7 := h28.size
    have s8 := hb8.size
    have s9 : (w7.alloc (Obj.cells #[Value.int .i64 4, Value.int .i64 0] 3)).heap.size = w7.heap.size + 1 := by simp
    have s10 : (w8.alloc (Obj.cells #[Value.string ⟨#[]⟩, Value.string ⟨#[120]⟩] 9)).heap.size = w8.heap.size + 1 := by simp
    exact ((((h28.alloc (by omega) _).trans (hb8.mono (by omega))).alloc (by omega) _).trans (hb9.mono (by omega)))
  have k0 := below_cell h29 (by have := hb2.size; omega) (below_cell hb2 hg hc0)
  have k1 := below_cell h29 (by have := hb2.size; omega) (below_cell hb2 hg hc1)
  have k2 := below_cell h29 hg2 hd1
  have hall : Below w.heap.size w w9 := (hb1.trans (hb2.mono hb1.size)).trans (h29.mono (by have := hb1.size; have := hb2.size; omega))
  clear hb1 hb2 hb3 hb4 hb5 hb6 hb7 hb8 hb9 hc0 hc1 hd1 h28 h29
  go_wp2
  go_ret
  exact ⟨rfl, hall⟩

end Go.Proofs.Ytcoebgkkniggeaa
