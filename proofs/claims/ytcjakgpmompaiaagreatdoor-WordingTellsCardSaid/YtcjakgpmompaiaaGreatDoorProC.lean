/-
  The program: the checks of elements, with and without names, and their makers.
-/
import Derived.Test.YtcjakgpmompaiaaGreatDoorProA
import Derived.Test.YtcjakgpmompaiaaGreatDoorHand
namespace Go.Proofs.YtcjakgpmompaiaaGreatDoor
open Go.RowKit Rl

/-- the error of an element with a name, behind those names -/
def nmE (nms : List B) (s : B) (ok : Bool) : Int := if nameB s = true then (if findV nms s = -1 then (if ok = true then 0 else 1) else 5) else 2
theorem nmE_form {nms : List B} {s : B} {ok : Bool} (h : nameB s = false) : nmE nms s ok = 2 := by unfold nmE; rw [if_neg (by rw [h]; decide)]
theorem nmE_twice {nms : List B} {s : B} {ok : Bool} (h : nameB s = true) (h1 : findV nms s ≠ -1) : nmE nms s ok = 5 := by unfold nmE; rw [if_pos h, if_neg h1]
theorem nmE_ok {nms : List B} {s : B} {ok : Bool} (h : nameB s = true) (h1 : findV nms s = -1) (h2 : ok = true) : nmE nms s ok = 0 := by unfold nmE; rw [if_pos h, if_pos h1, if_pos h2]
theorem nmE_arg {nms : List B} {s : B} {ok : Bool} (h : nameB s = true) (h1 : findV nms s = -1) (h2 : ok = false) : nmE nms s ok = 1 := by unfold nmE; rw [if_pos h, if_pos h1, if_neg (by rw [h2]; decide)]
theorem below_drew (w : World) : Below w.heap.size w w.drew := (Below.refl _ _).drew
theorem named_eq {nms : List B} {right : Nat → Bool} {i : Nat} {s : B} (h : nms[i]? = some s) : namedE nms right i = nmE (nms.take i) s (right i) := by
  unfold namedE nmE
  rw [List.getD_eq_getElem?_getD, h]
  rfl

set_option maxHeartbeats 6400000 in
set_option maxRecDepth 100000 in
theorem namedB_x (a : Option Addr) (i cap p q : Nat) (l : List B) (x : B) (ok : Bool) (w : World) (hp : w.cell? ⟨p, 0, none⟩ = some (.func (.func 95) #[] #[])) (hq : w.cell? ⟨q, 0, none⟩ = some (.func (.func 96) #[] #[]))
    (hl : SAt w (.slice a i cap) l) (hs : Sz l.length) (hR : ∀ w1, Below w.heap.size w w1 → Calls Tryz.prog 96 #[.string x] w1 fun r w' => r = .returned (.bool ok) ∧ Below w1.heap.size w1 w') :
    Calls Tryz.prog 155 #[.slice a i cap, .string x, .pointer (some ⟨p, 0, none⟩), .pointer (some ⟨q, 0, none⟩)] w fun r w' => r = .returned (.int .i64 (nmE l (x) ok)) ∧ Below w.heap.size w w' := by
  have HL := Lib.hid hl
  have HR := Lib.hid hR
  clear hl hR
  have B0 : Hid (Below w.heap.size w w) := Below.refl _ _
  have hp0 := hp
  have hq0 := hq
  clear hp hq
  go_enter Tryz.func155, Tryz.ntmps155
  go_wp2_with fail
  refine (nameB_x x _).mono ?_
  rintro r w1 ⟨rfl, rfl⟩
  go_wp2_with fail
  refine (isName_x x _).mono ?_
  rintro r w2 ⟨rfl, b2⟩
  have hp2 := cell_up b2 hp0
  have hq2 := cell_up b2 hq0
  have B2 := Lib.hid (chain B0.out b2)
  clear hp0 hq0
  clear b2
  cases hn : nameB x with
  | false =>
    have hv : Hid (nmE l x ok = 2) := nmE_form hn
    clear hn
    go_wp2_with fail
    go_ret
    exact ⟨by rw [hv.out]; try rfl, B2.out⟩
  | true =>
    have HN := Lib.hid hn
    clear hn
    go_wp2_with fail
    refine wp_region_held_drew (S := fun w' => w'.cell? ⟨p, 0, none⟩ = some (.func (.func 95) #[] #[])) (by kernel_rfl) ?_ (fun hHeld => ?_)
    · exact hp2
    refine takeN0 (v := ?_) (by kernel_rfl) (by kernel_rfl) (by kernel_rfl) (fun _ _ _ h => h) (by rfl) ?_ (by assumption) ?_
    rotate_left
    · intro wz hSw
      try dsimp only at hSw
      go_simp
      try with_reducible rfl
    try simp only [Act.put, List.setIfInBounds_toArray, List.set_cons_zero, List.set_cons_succ]
    refine takeN1 (v := ?_) (by kernel_rfl) (by kernel_rfl) (by kernel_rfl) (fun _ _ _ h => h) (by rfl) ?_ (by assumption) ?_
    rotate_left
    · intro wz hSw
      try dsimp only at hSw
      go_simp
      try with_reducible rfl
    try simp only [Act.put, List.setIfInBounds_toArray, List.set_cons_zero, List.set_cons_succ]
    refine takeN2 (v := ?_) (by kernel_rfl) (by kernel_rfl) (by kernel_rfl) (fun _ _ _ h => h) (by rfl) ?_ (by assumption) ?_
    rotate_left
    · intro wz hSw
      try dsimp only at hSw
      go_simp
      try with_reducible rfl
    try simp only [Act.put, List.setIfInBounds_toArray, List.set_cons_zero, List.set_cons_succ]
    refine takeN3 (v := ?_) (by kernel_rfl) (by kernel_rfl) (by kernel_rfl) (fun _ _ _ h => h) (by rfl) ?_ (by assumption) ?_
    rotate_left
    · intro wz hSw
      try dsimp only at hSw
      go_simp
      try with_reducible rfl
    try simp only [Act.put, List.setIfInBounds_toArray, List.set_cons_zero, List.set_cons_succ]
    refine comeN4 (by kernel_rfl) (by rfl) (fun K hK => ?_)
    go_simp
    (go_at_call 95; refine (nameB_x x _).mono ?_; rintro r w3 ⟨rfl, rfl⟩)
    try go_wp2_with fail
    have b3 := below_drew w2
    have hp3 := cell_up b3 hp2
    have hq3 := cell_up b3 hq2
    have B3 := Lib.hid (chain B2.out b3)
    clear b3
    refine hK.out _ _ ?_ (fun hHeld => ?_)
    · exact hp3
    clear hK K
    try simp only [Act.put, List.setIfInBounds_toArray, List.set_cons_zero, List.set_cons_succ]
    clear hp2 hq2
    refine comeN5 (by kernel_rfl) (by rfl) (fun K hK => ?_)
    go_simp
    (go_at_call 157; refine (findB_x _ l x _ (HL.out.next B3.out) hs).mono ?_; rintro r w4 ⟨rfl, b4⟩)
    try go_wp2_with fail
    have hp4 := cell_up b4 hp3
    have hq4 := cell_up b4 hq3
    have B4 := Lib.hid (chain B3.out b4)
    clear b4
    refine hK.out _ _ ?_ (fun hHeld => ?_)
    · exact hp4
    clear hK K
    try simp only [Act.put, List.setIfInBounds_toArray, List.set_cons_zero, List.set_cons_succ]
    clear hp3 hq3
    refine takeN6 (v := ?_) (by kernel_rfl) (by kernel_rfl) (by kernel_rfl) (fun _ _ _ h => h) (by rfl) ?_ (by assumption) ?_
    rotate_left
    · intro wz hSw
      try dsimp only at hSw
      go_simp
      try with_reducible rfl
    try simp only [Act.put, List.setIfInBounds_toArray, List.set_cons_zero, List.set_cons_succ]
    refine takeN7 (v := ?_) (by kernel_rfl) (by kernel_rfl) (by kernel_rfl) (fun _ _ _ h => h) (by rfl) ?_ (by assumption) ?_
    rotate_left
    · intro wz hSw
      try dsimp only at hSw
      go_simp
      try with_reducible rfl
    try simp only [Act.put, List.setIfInBounds_toArray, List.set_cons_zero, List.set_cons_succ]
    refine wpAnyH_done (by kernel_rfl) ?_ _
    clear hHeld
    by_cases hf : findV l x = -1
    · have f1 : (findV l x != -1) = false := nbf hf
      cases ok with
      | false =>
        have hv : Hid (nmE l x false = 1) := nmE_arg HN.out hf rfl
        clear hf
        go_wp2_with fail
        refine (HR.out _ B4.out).mono ?_
        rintro r w5 ⟨rfl, b5⟩
        have B5 := Lib.hid (chain B4.out b5)
        clear b5 HR
        go_wp2_with fail
        go_ret
        exact ⟨by rw [hv.out]; try rfl, B5.out⟩
      | true =>
        have hv : Hid (nmE l x true = 0) := nmE_ok HN.out hf rfl
        clear hf
        go_wp2_with fail
        refine (HR.out _ B4.out).mono ?_
        rintro r w5 ⟨rfl, b5⟩
        have B5 := Lib.hid (chain B4.out b5)
        clear b5 HR
        go_wp2_with fail
        go_ret
        exact ⟨by rw [hv.out]; try rfl, B5.out⟩
    · have f1 : (findV l x != -1) = true := nbt hf
      have hv : Hid (nmE l x ok = 5) := nmE_twice HN.out hf
      clear hf
      go_wp2_with fail
      go_ret
      exact ⟨by rw [hv.out]; try rfl, B4.out⟩

set_option maxHeartbeats 6400000 in
set_option maxRecDepth 100000 in
theorem namedCty_x (a : Option Addr) (i cap p q g : Nat) (l : List Cty) (x : Cty) (ok : Bool) (w : World) (hp : w.cell? ⟨p, 0, none⟩ = some (.func (.func 108) #[] #[])) (hq : w.cell? ⟨q, 0, none⟩ = some (.func (.func 99) #[] #[.pointer (some ⟨g, 0, none⟩)]))
    (hl : CAt w (.slice a i cap) l) (hs : Sz l.length) (hR : ∀ w1, Below w.heap.size w w1 → Calls Tryz.prog 99 #[vCty x, .pointer (some ⟨g, 0, none⟩)] w1 fun r w' => r = .returned (.bool ok) ∧ Below w1.heap.size w1 w') :
    Calls Tryz.prog 158 #[.slice a i cap, vCty x, .pointer (some ⟨p, 0, none⟩), .pointer (some ⟨q, 0, none⟩)] w fun r w' => r = .returned (.int .i64 (nmE (l.map Cty.nm) (x.nm) ok)) ∧ Below w.heap.size w w' := by
  have HL := Lib.hid hl
  have HR := Lib.hid hR
  clear hl hR
  have b0 := Below.new1 (w := w) (.cells #[.string x.nm, .int .i64 x.o, .int .i64 x.c, .slice x.a3 x.rest.length x.k3, .slice x.a4 x.feasts.length x.k4, .slice x.a5 x.shut.length x.k5] 75)
  have hp0 := cell_up b0 hp
  have hq0 := cell_up b0 hq
  have x0_0 : (w.alloc (.cells #[.string x.nm, .int .i64 x.o, .int .i64 x.c, .slice x.a3 x.rest.length x.k3, .slice x.a4 x.feasts.length x.k4, .slice x.a5 x.shut.length x.k5] 75)).cell? ⟨w.heap.size, 0, none⟩ = some (.string x.nm) := by rw [World.cell?_alloc_new]; rfl
  have x1_0 : (w.alloc (.cells #[.string x.nm, .int .i64 x.o, .int .i64 x.c, .slice x.a3 x.rest.length x.k3, .slice x.a4 x.feasts.length x.k4, .slice x.a5 x.shut.length x.k5] 75)).cell? ⟨w.heap.size, 1, none⟩ = some (.int .i64 x.o) := by rw [World.cell?_alloc_new]; rfl
  have x2_0 : (w.alloc (.cells #[.string x.nm, .int .i64 x.o, .int .i64 x.c, .slice x.a3 x.rest.length x.k3, .slice x.a4 x.feasts.length x.k4, .slice x.a5 x.shut.length x.k5] 75)).cell? ⟨w.heap.size, 2, none⟩ = some (.int .i64 x.c) := by rw [World.cell?_alloc_new]; rfl
  have x3_0 : (w.alloc (.cells #[.string x.nm, .int .i64 x.o, .int .i64 x.c, .slice x.a3 x.rest.length x.k3, .slice x.a4 x.feasts.length x.k4, .slice x.a5 x.shut.length x.k5] 75)).cell? ⟨w.heap.size, 3, none⟩ = some (.slice x.a3 x.rest.length x.k3) := by rw [World.cell?_alloc_new]; rfl
  have x4_0 : (w.alloc (.cells #[.string x.nm, .int .i64 x.o, .int .i64 x.c, .slice x.a3 x.rest.length x.k3, .slice x.a4 x.feasts.length x.k4, .slice x.a5 x.shut.length x.k5] 75)).cell? ⟨w.heap.size, 4, none⟩ = some (.slice x.a4 x.feasts.length x.k4) := by rw [World.cell?_alloc_new]; rfl
  have x5_0 : (w.alloc (.cells #[.string x.nm, .int .i64 x.o, .int .i64 x.c, .slice x.a3 x.rest.length x.k3, .slice x.a4 x.feasts.length x.k4, .slice x.a5 x.shut.length x.k5] 75)).cell? ⟨w.heap.size, 5, none⟩ = some (.slice x.a5 x.shut.length x.k5) := by rw [World.cell?_alloc_new]; rfl
  have B0 := Lib.hid b0
  clear hp hq b0
  go_enter Tryz.func158, Tryz.ntmps158
  go_wp2_with fail
  refine (nameCty_x x _).mono ?_
  rintro r w1 ⟨rfl, b1⟩
  have hp1 := cell_up b1 hp0
  have x0_1 := cell_up b1 x0_0
  have x1_1 := cell_up b1 x1_0
  have x2_1 := cell_up b1 x2_0
  have x3_1 := cell_up b1 x3_0
  have x4_1 := cell_up b1 x4_0
  have x5_1 := cell_up b1 x5_0
  have hq1 := cell_up b1 hq0
  have B1 := Lib.hid (chain B0.out b1)
  clear hp0 hq0 x0_0 x1_0 x2_0 x3_0 x4_0 x5_0
  clear b1
  go_wp2_with fail
  refine (isName_x x.nm _).mono ?_
  rintro r w2 ⟨rfl, b2⟩
  have hp2 := cell_up b2 hp1
  have x0_2 := cell_up b2 x0_1
  have x1_2 := cell_up b2 x1_1
  have x2_2 := cell_up b2 x2_1
  have x3_2 := cell_up b2 x3_1
  have x4_2 := cell_up b2 x4_1
  have x5_2 := cell_up b2 x5_1
  have hq2 := cell_up b2 hq1
  have B2 := Lib.hid (chain B1.out b2)
  clear hp1 hq1 x0_1 x1_1 x2_1 x3_1 x4_1 x5_1
  clear b2
  cases hn : nameB x.nm with
  | false =>
    have hv : Hid (nmE (l.map Cty.nm) x.nm ok = 2) := nmE_form hn
    clear hn
    go_wp2_with fail
    go_ret
    exact ⟨by rw [hv.out]; try rfl, B2.out⟩
  | true =>
    have HN := Lib.hid hn
    clear hn
    go_wp2_with fail
    refine wp_region_held_drew (S := fun w' => w'.cell? ⟨p, 0, none⟩ = some (.func (.func 108) #[] #[]) ∧ w'.cell? ⟨w.heap.size, 0, none⟩ = some (.string x.nm) ∧ w'.cell? ⟨w.heap.size, 1, none⟩ = some (.int .i64 x.o) ∧ w'.cell? ⟨w.heap.size, 2, none⟩ = some (.int .i64 x.c) ∧ w'.cell? ⟨w.heap.size, 3, none⟩ = some (.slice x.a3 x.rest.length x.k3) ∧ w'.cell? ⟨w.heap.size, 4, none⟩ = some (.slice x.a4 x.feasts.length x.k4) ∧ w'.cell? ⟨w.heap.size, 5, none⟩ = some (.slice x.a5 x.shut.length x.k5)) (by kernel_rfl) ?_ (fun hHeld => ?_)
    · exact ⟨hp2, x0_2, x1_2, x2_2, x3_2, x4_2, x5_2⟩
    refine takeN0 (v := ?_) (by kernel_rfl) (by kernel_rfl) (by kernel_rfl) (fun _ _ _ h => h) (by rfl) ?_ (by assumption) ?_
    rotate_left
    · intro wz hSw
      try dsimp only at hSw
      go_simp
      try with_reducible rfl
    try simp only [Act.put, List.setIfInBounds_toArray, List.set_cons_zero, List.set_cons_succ]
    refine takeN1 (v := ?_) (by kernel_rfl) (by kernel_rfl) (by kernel_rfl) (fun _ _ _ h => h) (by rfl) ?_ (by assumption) ?_
    rotate_left
    · intro wz hSw
      try dsimp only at hSw
      go_simp
      try with_reducible rfl
    try simp only [Act.put, List.setIfInBounds_toArray, List.set_cons_zero, List.set_cons_succ]
    refine takeN2 (v := ?_) (by kernel_rfl) (by kernel_rfl) (by kernel_rfl) (fun _ _ _ h => h) (by rfl) ?_ (by assumption) ?_
    rotate_left
    · intro wz hSw
      try dsimp only at hSw
      go_simp
      try with_reducible rfl
    try simp only [Act.put, List.setIfInBounds_toArray, List.set_cons_zero, List.set_cons_succ]
    refine takeN3 (v := ?_) (by kernel_rfl) (by kernel_rfl) (by kernel_rfl) (fun _ _ _ h => h) (by rfl) ?_ (by assumption) ?_
    rotate_left
    · intro wz hSw
      try dsimp only at hSw
      go_simp
      try with_reducible rfl
    try simp only [Act.put, List.setIfInBounds_toArray, List.set_cons_zero, List.set_cons_succ]
    refine comeN4 (by kernel_rfl) (by rfl) (fun K hK => ?_)
    go_simp
    (go_at_call 108; refine (nameCty_x x _).mono ?_; rintro r w3 ⟨rfl, b3⟩)
    try go_wp2_with fail
    have b3 := chain (below_drew w2) b3
    have hp3 := cell_up b3 hp2
    have x0_3 := cell_up b3 x0_2
    have x1_3 := cell_up b3 x1_2
    have x2_3 := cell_up b3 x2_2
    have x3_3 := cell_up b3 x3_2
    have x4_3 := cell_up b3 x4_2
    have x5_3 := cell_up b3 x5_2
    have hq3 := cell_up b3 hq2
    have B3 := Lib.hid (chain B2.out b3)
    clear b3
    refine hK.out _ _ ?_ (fun hHeld => ?_)
    · exact ⟨hp3, x0_3, x1_3, x2_3, x3_3, x4_3, x5_3⟩
    clear hK K
    try simp only [Act.put, List.setIfInBounds_toArray, List.set_cons_zero, List.set_cons_succ]
    clear hp2 hq2 x0_2 x1_2 x2_2 x3_2 x4_2 x5_2
    refine comeN5 (by kernel_rfl) (by rfl) (fun K hK => ?_)
    go_simp
    (go_at_call 147; refine (findCty_x _ l x.nm _ (HL.out.next B3.out) hs).mono ?_; rintro r w4 ⟨rfl, b4⟩)
    try go_wp2_with fail
    have hp4 := cell_up b4 hp3
    have x0_4 := cell_up b4 x0_3
    have x1_4 := cell_up b4 x1_3
    have x2_4 := cell_up b4 x2_3
    have x3_4 := cell_up b4 x3_3
    have x4_4 := cell_up b4 x4_3
    have x5_4 := cell_up b4 x5_3
    have hq4 := cell_up b4 hq3
    have B4 := Lib.hid (chain B3.out b4)
    clear b4
    refine hK.out _ _ ?_ (fun hHeld => ?_)
    · exact ⟨hp4, x0_4, x1_4, x2_4, x3_4, x4_4, x5_4⟩
    clear hK K
    try simp only [Act.put, List.setIfInBounds_toArray, List.set_cons_zero, List.set_cons_succ]
    clear hp3 hq3 x0_3 x1_3 x2_3 x3_3 x4_3 x5_3
    refine takeN6 (v := ?_) (by kernel_rfl) (by kernel_rfl) (by kernel_rfl) (fun _ _ _ h => h) (by rfl) ?_ (by assumption) ?_
    rotate_left
    · intro wz hSw
      try dsimp only at hSw
      go_simp
      try with_reducible rfl
    try simp only [Act.put, List.setIfInBounds_toArray, List.set_cons_zero, List.set_cons_succ]
    refine takeN7 (v := ?_) (by kernel_rfl) (by kernel_rfl) (by kernel_rfl) (fun _ _ _ h => h) (by rfl) ?_ (by assumption) ?_
    rotate_left
    · intro wz hSw
      try dsimp only at hSw
      go_simp
      try with_reducible rfl
    try simp only [Act.put, List.setIfInBounds_toArray, List.set_cons_zero, List.set_cons_succ]
    refine wpAnyH_done (by kernel_rfl) ?_ _
    clear hHeld
    by_cases hf : findV (l.map Cty.nm) (x.nm) = -1
    · have f1 : (findV (l.map Cty.nm) (x.nm) != -1) = false := nbf hf
      cases ok with
      | false =>
        have hv : Hid (nmE (l.map Cty.nm) (x.nm) false = 1) := nmE_arg HN.out hf rfl
        clear hf
        go_wp2_with fail
        refine (HR.out _ B4.out).mono ?_
        rintro r w5 ⟨rfl, b5⟩
        have B5 := Lib.hid (chain B4.out b5)
        clear b5 HR
        go_wp2_with fail
        go_ret
        exact ⟨by rw [hv.out]; try rfl, B5.out⟩
      | true =>
        have hv : Hid (nmE (l.map Cty.nm) (x.nm) true = 0) := nmE_ok HN.out hf rfl
        clear hf
        go_wp2_with fail
        refine (HR.out _ B4.out).mono ?_
        rintro r w5 ⟨rfl, b5⟩
        have B5 := Lib.hid (chain B4.out b5)
        clear b5 HR
        go_wp2_with fail
        go_ret
        exact ⟨by rw [hv.out]; try rfl, B5.out⟩
    · have f1 : (findV (l.map Cty.nm) (x.nm) != -1) = true := nbt hf
      have hv : Hid (nmE (l.map Cty.nm) (x.nm) ok = 5) := nmE_twice HN.out hf
      clear hf
      go_wp2_with fail
      go_ret
      exact ⟨by rw [hv.out]; try rfl, B4.out⟩

set_option maxHeartbeats 6400000 in
set_option maxRecDepth 100000 in
theorem namedFrm_x (a : Option Addr) (i cap p q g : Nat) (l : List Frm) (x : Frm) (ok : Bool) (w : World) (hp : w.cell? ⟨p, 0, none⟩ = some (.func (.func 118) #[] #[])) (hq : w.cell? ⟨q, 0, none⟩ = some (.func (.func 113) #[] #[.pointer (some ⟨g, 0, none⟩)]))
    (hl : FAt w (.slice a i cap) l) (hs : Sz l.length) (hR : ∀ w1, Below w.heap.size w w1 → Calls Tryz.prog 113 #[vFrm x, .pointer (some ⟨g, 0, none⟩)] w1 fun r w' => r = .returned (.bool ok) ∧ Below w1.heap.size w1 w') :
    Calls Tryz.prog 160 #[.slice a i cap, vFrm x, .pointer (some ⟨p, 0, none⟩), .pointer (some ⟨q, 0, none⟩)] w fun r w' => r = .returned (.int .i64 (nmE (l.map Frm.nm) (x.nm) ok)) ∧ Below w.heap.size w w' := by
  have HL := Lib.hid hl
  have HR := Lib.hid hR
  clear hl hR
  have b0 := Below.new1 (w := w) (.cells #[.string x.nm, .int .i64 x.city, .int .i64 x.grp] 78)
  have hp0 := cell_up b0 hp
  have hq0 := cell_up b0 hq
  have x0_0 : (w.alloc (.cells #[.string x.nm, .int .i64 x.city, .int .i64 x.grp] 78)).cell? ⟨w.heap.size, 0, none⟩ = some (.string x.nm) := by rw [World.cell?_alloc_new]; rfl
  have x1_0 : (w.alloc (.cells #[.string x.nm, .int .i64 x.city, .int .i64 x.grp] 78)).cell? ⟨w.heap.size, 1, none⟩ = some (.int .i64 x.city) := by rw [World.cell?_alloc_new]; rfl
  have x2_0 : (w.alloc (.cells #[.string x.nm, .int .i64 x.city, .int .i64 x.grp] 78)).cell? ⟨w.heap.size, 2, none⟩ = some (.int .i64 x.grp) := by rw [World.cell?_alloc_new]; rfl
  have B0 := Lib.hid b0
  clear hp hq b0
  go_enter Tryz.func160, Tryz.ntmps160
  go_wp2_with fail
  refine (nameFrm_x x _).mono ?_
  rintro r w1 ⟨rfl, b1⟩
  have hp1 := cell_up b1 hp0
  have x0_1 := cell_up b1 x0_0
  have x1_1 := cell_up b1 x1_0
  have x2_1 := cell_up b1 x2_0
  have hq1 := cell_up b1 hq0
  have B1 := Lib.hid (chain B0.out b1)
  clear hp0 hq0 x0_0 x1_0 x2_0
  clear b1
  go_wp2_with fail
  refine (isName_x x.nm _).mono ?_
  rintro r w2 ⟨rfl, b2⟩
  have hp2 := cell_up b2 hp1
  have x0_2 := cell_up b2 x0_1
  have x1_2 := cell_up b2 x1_1
  have x2_2 := cell_up b2 x2_1
  have hq2 := cell_up b2 hq1
  have B2 := Lib.hid (chain B1.out b2)
  clear hp1 hq1 x0_1 x1_1 x2_1
  clear b2
  cases hn : nameB x.nm with
  | false =>
    have hv : Hid (nmE (l.map Frm.nm) x.nm ok = 2) := nmE_form hn
    clear hn
    go_wp2_with fail
    go_ret
    exact ⟨by rw [hv.out]; try rfl, B2.out⟩
  | true =>
    have HN := Lib.hid hn
    clear hn
    go_wp2_with fail
    refine wp_region_held_drew (S := fun w' => w'.cell? ⟨p, 0, none⟩ = some (.func (.func 118) #[] #[]) ∧ w'.cell? ⟨w.heap.size, 0, none⟩ = some (.string x.nm) ∧ w'.cell? ⟨w.heap.size, 1, none⟩ = some (.int .i64 x.city) ∧ w'.cell? ⟨w.heap.size, 2, none⟩ = some (.int .i64 x.grp)) (by kernel_rfl) ?_ (fun hHeld => ?_)
    · exact ⟨hp2, x0_2, x1_2, x2_2⟩
    refine takeN0 (v := ?_) (by kernel_rfl) (by kernel_rfl) (by kernel_rfl) (fun _ _ _ h => h) (by rfl) ?_ (by assumption) ?_
    rotate_left
    · intro wz hSw
      try dsimp only at hSw
      go_simp
      try with_reducible rfl
    try simp only [Act.put, List.setIfInBounds_toArray, List.set_cons_zero, List.set_cons_succ]
    refine takeN1 (v := ?_) (by kernel_rfl) (by kernel_rfl) (by kernel_rfl) (fun _ _ _ h => h) (by rfl) ?_ (by assumption) ?_
    rotate_left
    · intro wz hSw
      try dsimp only at hSw
      go_simp
      try with_reducible rfl
    try simp only [Act.put, List.setIfInBounds_toArray, List.set_cons_zero, List.set_cons_succ]
    refine takeN2 (v := ?_) (by kernel_rfl) (by kernel_rfl) (by kernel_rfl) (fun _ _ _ h => h) (by rfl) ?_ (by assumption) ?_
    rotate_left
    · intro wz hSw
      try dsimp only at hSw
      go_simp
      try with_reducible rfl
    try simp only [Act.put, List.setIfInBounds_toArray, List.set_cons_zero, List.set_cons_succ]
    refine takeN3 (v := ?_) (by kernel_rfl) (by kernel_rfl) (by kernel_rfl) (fun _ _ _ h => h) (by rfl) ?_ (by assumption) ?_
    rotate_left
    · intro wz hSw
      try dsimp only at hSw
      go_simp
      try with_reducible rfl
    try simp only [Act.put, List.setIfInBounds_toArray, List.set_cons_zero, List.set_cons_succ]
    refine comeN4 (by kernel_rfl) (by rfl) (fun K hK => ?_)
    go_simp
    (go_at_call 118; refine (nameFrm_x x _).mono ?_; rintro r w3 ⟨rfl, b3⟩)
    try go_wp2_with fail
    have b3 := chain (below_drew w2) b3
    have hp3 := cell_up b3 hp2
    have x0_3 := cell_up b3 x0_2
    have x1_3 := cell_up b3 x1_2
    have x2_3 := cell_up b3 x2_2
    have hq3 := cell_up b3 hq2
    have B3 := Lib.hid (chain B2.out b3)
    clear b3
    refine hK.out _ _ ?_ (fun hHeld => ?_)
    · exact ⟨hp3, x0_3, x1_3, x2_3⟩
    clear hK K
    try simp only [Act.put, List.setIfInBounds_toArray, List.set_cons_zero, List.set_cons_succ]
    clear hp2 hq2 x0_2 x1_2 x2_2
    refine comeN5 (by kernel_rfl) (by rfl) (fun K hK => ?_)
    go_simp
    (go_at_call 152; refine (findFrm_x _ l x.nm _ (HL.out.next B3.out) hs).mono ?_; rintro r w4 ⟨rfl, b4⟩)
    try go_wp2_with fail
    have hp4 := cell_up b4 hp3
    have x0_4 := cell_up b4 x0_3
    have x1_4 := cell_up b4 x1_3
    have x2_4 := cell_up b4 x2_3
    have hq4 := cell_up b4 hq3
    have B4 := Lib.hid (chain B3.out b4)
    clear b4
    refine hK.out _ _ ?_ (fun hHeld => ?_)
    · exact ⟨hp4, x0_4, x1_4, x2_4⟩
    clear hK K
    try simp only [Act.put, List.setIfInBounds_toArray, List.set_cons_zero, List.set_cons_succ]
    clear hp3 hq3 x0_3 x1_3 x2_3
    refine takeN6 (v := ?_) (by kernel_rfl) (by kernel_rfl) (by kernel_rfl) (fun _ _ _ h => h) (by rfl) ?_ (by assumption) ?_
    rotate_left
    · intro wz hSw
      try dsimp only at hSw
      go_simp
      try with_reducible rfl
    try simp only [Act.put, List.setIfInBounds_toArray, List.set_cons_zero, List.set_cons_succ]
    refine takeN7 (v := ?_) (by kernel_rfl) (by kernel_rfl) (by kernel_rfl) (fun _ _ _ h => h) (by rfl) ?_ (by assumption) ?_
    rotate_left
    · intro wz hSw
      try dsimp only at hSw
      go_simp
      try with_reducible rfl
    try simp only [Act.put, List.setIfInBounds_toArray, List.set_cons_zero, List.set_cons_succ]
    refine wpAnyH_done (by kernel_rfl) ?_ _
    clear hHeld
    by_cases hf : findV (l.map Frm.nm) (x.nm) = -1
    · have f1 : (findV (l.map Frm.nm) (x.nm) != -1) = false := nbf hf
      cases ok with
      | false =>
        have hv : Hid (nmE (l.map Frm.nm) (x.nm) false = 1) := nmE_arg HN.out hf rfl
        clear hf
        go_wp2_with fail
        refine (HR.out _ B4.out).mono ?_
        rintro r w5 ⟨rfl, b5⟩
        have B5 := Lib.hid (chain B4.out b5)
        clear b5 HR
        go_wp2_with fail
        go_ret
        exact ⟨by rw [hv.out]; try rfl, B5.out⟩
      | true =>
        have hv : Hid (nmE (l.map Frm.nm) (x.nm) true = 0) := nmE_ok HN.out hf rfl
        clear hf
        go_wp2_with fail
        refine (HR.out _ B4.out).mono ?_
        rintro r w5 ⟨rfl, b5⟩
        have B5 := Lib.hid (chain B4.out b5)
        clear b5 HR
        go_wp2_with fail
        go_ret
        exact ⟨by rw [hv.out]; try rfl, B5.out⟩
    · have f1 : (findV (l.map Frm.nm) (x.nm) != -1) = true := nbt hf
      have hv : Hid (nmE (l.map Frm.nm) (x.nm) ok = 5) := nmE_twice HN.out hf
      clear hf
      go_wp2_with fail
      go_ret
      exact ⟨by rw [hv.out]; try rfl, B4.out⟩

set_option maxHeartbeats 6400000 in
set_option maxRecDepth 100000 in
theorem namedOdr_x (a : Option Addr) (i cap p q : Nat) (l : List Odr) (x : Odr) (ok : Bool) (w : World) (hp : w.cell? ⟨p, 0, none⟩ = some (.func (.func 119) #[] #[])) (hq : w.cell? ⟨q, 0, none⟩ = some (.func (.func 120) #[] #[]))
    (hl : OAt w (.slice a i cap) l) (hs : Sz l.length) (hR : ∀ w1, Below w.heap.size w w1 → Calls Tryz.prog 120 #[vOdr x] w1 fun r w' => r = .returned (.bool ok) ∧ Below w1.heap.size w1 w') :
    Calls Tryz.prog 161 #[.slice a i cap, vOdr x, .pointer (some ⟨p, 0, none⟩), .pointer (some ⟨q, 0, none⟩)] w fun r w' => r = .returned (.int .i64 (nmE (l.map Odr.nm) (x.nm) ok)) ∧ Below w.heap.size w w' := by
  have HL := Lib.hid hl
  have HR := Lib.hid hR
  clear hl hR
  have b0 := Below.new1 (w := w) (.cells #[.string x.nm, .bool x.acc, .slice x.a2 x.ch.length x.k2, .slice x.a3 x.ru.length x.k3] 85)
  have hp0 := cell_up b0 hp
  have hq0 := cell_up b0 hq
  have x0_0 : (w.alloc (.cells #[.string x.nm, .bool x.acc, .slice x.a2 x.ch.length x.k2, .slice x.a3 x.ru.length x.k3] 85)).cell? ⟨w.heap.size, 0, none⟩ = some (.string x.nm) := by rw [World.cell?_alloc_new]; rfl
  have x1_0 : (w.alloc (.cells #[.string x.nm, .bool x.acc, .slice x.a2 x.ch.length x.k2, .slice x.a3 x.ru.length x.k3] 85)).cell? ⟨w.heap.size, 1, none⟩ = some (.bool x.acc) := by rw [World.cell?_alloc_new]; rfl
  have x2_0 : (w.alloc (.cells #[.string x.nm, .bool x.acc, .slice x.a2 x.ch.length x.k2, .slice x.a3 x.ru.length x.k3] 85)).cell? ⟨w.heap.size, 2, none⟩ = some (.slice x.a2 x.ch.length x.k2) := by rw [World.cell?_alloc_new]; rfl
  have x3_0 : (w.alloc (.cells #[.string x.nm, .bool x.acc, .slice x.a2 x.ch.length x.k2, .slice x.a3 x.ru.length x.k3] 85)).cell? ⟨w.heap.size, 3, none⟩ = some (.slice x.a3 x.ru.length x.k3) := by rw [World.cell?_alloc_new]; rfl
  have B0 := Lib.hid b0
  clear hp hq b0
  go_enter Tryz.func161, Tryz.ntmps161
  go_wp2_with fail
  refine (nameOdr_x x _).mono ?_
  rintro r w1 ⟨rfl, b1⟩
  have hp1 := cell_up b1 hp0
  have x0_1 := cell_up b1 x0_0
  have x1_1 := cell_up b1 x1_0
  have x2_1 := cell_up b1 x2_0
  have x3_1 := cell_up b1 x3_0
  have hq1 := cell_up b1 hq0
  have B1 := Lib.hid (chain B0.out b1)
  clear hp0 hq0 x0_0 x1_0 x2_0 x3_0
  clear b1
  go_wp2_with fail
  refine (isName_x x.nm _).mono ?_
  rintro r w2 ⟨rfl, b2⟩
  have hp2 := cell_up b2 hp1
  have x0_2 := cell_up b2 x0_1
  have x1_2 := cell_up b2 x1_1
  have x2_2 := cell_up b2 x2_1
  have x3_2 := cell_up b2 x3_1
  have hq2 := cell_up b2 hq1
  have B2 := Lib.hid (chain B1.out b2)
  clear hp1 hq1 x0_1 x1_1 x2_1 x3_1
  clear b2
  cases hn : nameB x.nm with
  | false =>
    have hv : Hid (nmE (l.map Odr.nm) x.nm ok = 2) := nmE_form hn
    clear hn
    go_wp2_with fail
    go_ret
    exact ⟨by rw [hv.out]; try rfl, B2.out⟩
  | true =>
    have HN := Lib.hid hn
    clear hn
    go_wp2_with fail
    refine wp_region_held_drew (S := fun w' => w'.cell? ⟨p, 0, none⟩ = some (.func (.func 119) #[] #[]) ∧ w'.cell? ⟨w.heap.size, 0, none⟩ = some (.string x.nm) ∧ w'.cell? ⟨w.heap.size, 1, none⟩ = some (.bool x.acc) ∧ w'.cell? ⟨w.heap.size, 2, none⟩ = some (.slice x.a2 x.ch.length x.k2) ∧ w'.cell? ⟨w.heap.size, 3, none⟩ = some (.slice x.a3 x.ru.length x.k3)) (by kernel_rfl) ?_ (fun hHeld => ?_)
    · exact ⟨hp2, x0_2, x1_2, x2_2, x3_2⟩
    refine takeN0 (v := ?_) (by kernel_rfl) (by kernel_rfl) (by kernel_rfl) (fun _ _ _ h => h) (by rfl) ?_ (by assumption) ?_
    rotate_left
    · intro wz hSw
      try dsimp only at hSw
      go_simp
      try with_reducible rfl
    try simp only [Act.put, List.setIfInBounds_toArray, List.set_cons_zero, List.set_cons_succ]
    refine takeN1 (v := ?_) (by kernel_rfl) (by kernel_rfl) (by kernel_rfl) (fun _ _ _ h => h) (by rfl) ?_ (by assumption) ?_
    rotate_left
    · intro wz hSw
      try dsimp only at hSw
      go_simp
      try with_reducible rfl
    try simp only [Act.put, List.setIfInBounds_toArray, List.set_cons_zero, List.set_cons_succ]
    refine takeN2 (v := ?_) (by kernel_rfl) (by kernel_rfl) (by kernel_rfl) (fun _ _ _ h => h) (by rfl) ?_ (by assumption) ?_
    rotate_left
    · intro wz hSw
      try dsimp only at hSw
      go_simp
      try with_reducible rfl
    try simp only [Act.put, List.setIfInBounds_toArray, List.set_cons_zero, List.set_cons_succ]
    refine takeN3 (v := ?_) (by kernel_rfl) (by kernel_rfl) (by kernel_rfl) (fun _ _ _ h => h) (by rfl) ?_ (by assumption) ?_
    rotate_left
    · intro wz hSw
      try dsimp only at hSw
      go_simp
      try with_reducible rfl
    try simp only [Act.put, List.setIfInBounds_toArray, List.set_cons_zero, List.set_cons_succ]
    refine comeN4 (by kernel_rfl) (by rfl) (fun K hK => ?_)
    go_simp
    (go_at_call 119; refine (nameOdr_x x _).mono ?_; rintro r w3 ⟨rfl, b3⟩)
    try go_wp2_with fail
    have b3 := chain (below_drew w2) b3
    have hp3 := cell_up b3 hp2
    have x0_3 := cell_up b3 x0_2
    have x1_3 := cell_up b3 x1_2
    have x2_3 := cell_up b3 x2_2
    have x3_3 := cell_up b3 x3_2
    have hq3 := cell_up b3 hq2
    have B3 := Lib.hid (chain B2.out b3)
    clear b3
    refine hK.out _ _ ?_ (fun hHeld => ?_)
    · exact ⟨hp3, x0_3, x1_3, x2_3, x3_3⟩
    clear hK K
    try simp only [Act.put, List.setIfInBounds_toArray, List.set_cons_zero, List.set_cons_succ]
    clear hp2 hq2 x0_2 x1_2 x2_2 x3_2
    refine comeN5 (by kernel_rfl) (by rfl) (fun K hK => ?_)
    go_simp
    (go_at_call 162; refine (findOdr_x _ l x.nm _ (HL.out.next B3.out) hs).mono ?_; rintro r w4 ⟨rfl, b4⟩)
    try go_wp2_with fail
    have hp4 := cell_up b4 hp3
    have x0_4 := cell_up b4 x0_3
    have x1_4 := cell_up b4 x1_3
    have x2_4 := cell_up b4 x2_3
    have x3_4 := cell_up b4 x3_3
    have hq4 := cell_up b4 hq3
    have B4 := Lib.hid (chain B3.out b4)
    clear b4
    refine hK.out _ _ ?_ (fun hHeld => ?_)
    · exact ⟨hp4, x0_4, x1_4, x2_4, x3_4⟩
    clear hK K
    try simp only [Act.put, List.setIfInBounds_toArray, List.set_cons_zero, List.set_cons_succ]
    clear hp3 hq3 x0_3 x1_3 x2_3 x3_3
    refine takeN6 (v := ?_) (by kernel_rfl) (by kernel_rfl) (by kernel_rfl) (fun _ _ _ h => h) (by rfl) ?_ (by assumption) ?_
    rotate_left
    · intro wz hSw
      try dsimp only at hSw
      go_simp
      try with_reducible rfl
    try simp only [Act.put, List.setIfInBounds_toArray, List.set_cons_zero, List.set_cons_succ]
    refine takeN7 (v := ?_) (by kernel_rfl) (by kernel_rfl) (by kernel_rfl) (fun _ _ _ h => h) (by rfl) ?_ (by assumption) ?_
    rotate_left
    · intro wz hSw
      try dsimp only at hSw
      go_simp
      try with_reducible rfl
    try simp only [Act.put, List.setIfInBounds_toArray, List.set_cons_zero, List.set_cons_succ]
    refine wpAnyH_done (by kernel_rfl) ?_ _
    clear hHeld
    by_cases hf : findV (l.map Odr.nm) (x.nm) = -1
    · have f1 : (findV (l.map Odr.nm) (x.nm) != -1) = false := nbf hf
      cases ok with
      | false =>
        have hv : Hid (nmE (l.map Odr.nm) (x.nm) false = 1) := nmE_arg HN.out hf rfl
        clear hf
        go_wp2_with fail
        refine (HR.out _ B4.out).mono ?_
        rintro r w5 ⟨rfl, b5⟩
        have B5 := Lib.hid (chain B4.out b5)
        clear b5 HR
        go_wp2_with fail
        go_ret
        exact ⟨by rw [hv.out]; try rfl, B5.out⟩
      | true =>
        have hv : Hid (nmE (l.map Odr.nm) (x.nm) true = 0) := nmE_ok HN.out hf rfl
        clear hf
        go_wp2_with fail
        refine (HR.out _ B4.out).mono ?_
        rintro r w5 ⟨rfl, b5⟩
        have B5 := Lib.hid (chain B4.out b5)
        clear b5 HR
        go_wp2_with fail
        go_ret
        exact ⟨by rw [hv.out]; try rfl, B5.out⟩
    · have f1 : (findV (l.map Odr.nm) (x.nm) != -1) = true := nbt hf
      have hv : Hid (nmE (l.map Odr.nm) (x.nm) ok = 5) := nmE_twice HN.out hf
      clear hf
      go_wp2_with fail
      go_ret
      exact ⟨by rw [hv.out]; try rfl, B4.out⟩

end Go.Proofs.YtcjakgpmompaiaaGreatDoor
