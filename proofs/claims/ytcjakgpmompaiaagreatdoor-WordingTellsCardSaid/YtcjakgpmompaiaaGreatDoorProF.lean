/-
  The program: first, for each kind of element.
-/
import Derived.Test.YtcjakgpmompaiaaGreatDoorProE
namespace Go.Proofs.YtcjakgpmompaiaaGreatDoor
open Go.RowKit Rl

/-- the first k elements are without errors -/
def OkRel (n : Nat) (chk : Nat → Int) (W : World) (i : Value) (wr : World) : Prop := ∃ k : Nat, k ≤ n ∧ i = .int .i64 (k : Int) ∧ (∀ j, j < k → chk j = 0) ∧ Below W.heap.size W wr
theorem ok_step {chk : Nat → Int} {k : Nat} (h : ∀ j, j < k → chk j = 0) (h1 : chk k = 0) : ∀ j, j < k + 1 → chk j = 0 := by
  intro j hj
  by_cases c : j = k
  · subst c; exact h1
  · exact h j (by omega)

set_option maxHeartbeats 3200000 in
set_option maxRecDepth 100000 in
theorem firstStr_x (a : Option Addr) (cap lim p q : Nat) (l : List B) (chk : Nat → Int) (w : World) (hl : SAt w (.slice a l.length cap) l) (hs : Sz l.length)
    (hR : ∀ (i : Nat) (x : B) (w1 : World), l[i]? = some x → Below w.heap.size w w1 → Calls Tryz.prog 155 #[.slice a i cap, .string x, .pointer (some ⟨p, 0, none⟩), .pointer (some ⟨q, 0, none⟩)] w1 fun r w' => r = .returned (.int .i64 (chk i)) ∧ Below w1.heap.size w1 w') :
    Calls Tryz.prog 97 #[.slice a l.length cap, .int .i64 (lim : Int), .func (.func 155) #[] #[.pointer (some ⟨p, 0, none⟩), .pointer (some ⟨q, 0, none⟩)]] w fun r w' => r = .returned (.int .i64 (listE lim l.length chk)) ∧ Below w.heap.size w w' := by
  have HL := Lib.hid hl
  have HR := Lib.hid hR
  have hcap := hl.len.2
  clear hl hR
  by_cases tl : lim < l.length
  · have u1 : (lim : Int) < (l.length : Int) := by omega
    have hv : Hid (listE lim l.length chk = 6) := list_long tl
    go_enter Tryz.func97, Tryz.ntmps97
    go_wp2_with fail
    go_ret
    exact ⟨by rw [hv.out]; try rfl, Below.refl _ _⟩
  have u1 : ¬ (lim : Int) < (l.length : Int) := by omega
  go_enter Tryz.func97, Tryz.ntmps97
  go_wp2_with fail
  go_loopw [16] (fun i wr => OkRel l.length chk w i wr) (fun i _ => l.length - (intOf i).toNat)
  case atStart => exact ⟨0, Nat.zero_le _, rfl, fun j hj => by omega, Below.refl _ _⟩
  case round =>
    obtain ⟨k, hk, rfl, hall, hbw⟩ := hrel
    have Ha := Lib.hid hall
    have HB := Lib.hid hbw
    have k0 : (0 : Int) ≤ (k : Int) := by omega
    clear hall hbw
    by_cases c : k < l.length
    case neg =>
      have c0 : ¬ (k : Int) < (l.length : Int) := by omega
      have hv : Hid (listE lim l.length chk = 0) := list_all tl (fun i hi => Ha.out i (by omega))
      clear tl
      go_wp2_with fail
      go_ret
      exact ⟨by rw [hv.out]; try rfl, HB.out⟩
    case pos =>
      have c0 : (k : Int) < (l.length : Int) := by omega
      have c1 : (k : Int) ≤ (cap : Int) := by omega
      have c2 : (l.length : Int) ≤ (cap : Int) := by omega
      obtain ⟨x, hx⟩ : ∃ x, l[k]? = some x := ⟨_, List.getElem?_eq_getElem c⟩
      obtain ⟨b, off, rfl, hb, hc⟩ := (HL.out.next HB.out).at hx
      have t0 : wr.cell? ⟨b, off + k, none⟩ = some (.string x) := (by have := hc 0 _ rfl; rw [Nat.mul_one, Nat.add_zero] at this; exact this)
      have HX := Lib.hid hx
      clear hx hc
      have BW := Lib.hid HB.out
      go_wp2_with fail
      refine (HR.out k x _ HX.out BW.out).mono ?_
      rintro r w2 ⟨rfl, b2⟩
      have B2 := Lib.hid (chain BW.out b2)
      clear b2
      by_cases e : chk k = 0
      · have e1 : (chk k != 0) = false := nbf e
        have HN := Lib.hid (ok_step Ha.out e)
        clear e
        go_wp2_with fail
        go_roundw
        case rel => exact ⟨k + 1, by omega, by congr 1, HN.out, B2.out⟩
        case measure => simp [intOf]; omega
      · have e1 : (chk k != 0) = true := nbt e
        have hv : Hid (listE lim l.length chk = chk k) := list_at tl Ha.out e c
        clear e tl
        go_wp2_with fail
        go_ret
        exact ⟨by rw [hv.out]; try rfl, B2.out⟩

set_option maxHeartbeats 3200000 in
set_option maxRecDepth 100000 in
theorem firstCty_x (a : Option Addr) (cap lim p q : Nat) (l : List Cty) (chk : Nat → Int) (w : World) (hl : CAt w (.slice a l.length cap) l) (hs : Sz l.length)
    (hR : ∀ (i : Nat) (x : Cty) (w1 : World), l[i]? = some x → Below w.heap.size w w1 → Calls Tryz.prog 158 #[.slice a i cap, vCty x, .pointer (some ⟨p, 0, none⟩), .pointer (some ⟨q, 0, none⟩)] w1 fun r w' => r = .returned (.int .i64 (chk i)) ∧ Below w1.heap.size w1 w') :
    Calls Tryz.prog 106 #[.slice a l.length cap, .int .i64 (lim : Int), .func (.func 158) #[] #[.pointer (some ⟨p, 0, none⟩), .pointer (some ⟨q, 0, none⟩)]] w fun r w' => r = .returned (.int .i64 (listE lim l.length chk)) ∧ Below w.heap.size w w' := by
  have HL := Lib.hid hl
  have HR := Lib.hid hR
  have hcap := hl.len.2
  clear hl hR
  by_cases tl : lim < l.length
  · have u1 : (lim : Int) < (l.length : Int) := by omega
    have hv : Hid (listE lim l.length chk = 6) := list_long tl
    go_enter Tryz.func106, Tryz.ntmps106
    go_wp2_with fail
    go_ret
    exact ⟨by rw [hv.out]; try rfl, Below.refl _ _⟩
  have u1 : ¬ (lim : Int) < (l.length : Int) := by omega
  go_enter Tryz.func106, Tryz.ntmps106
  go_wp2_with fail
  go_loopw [16] (fun i wr => OkRel l.length chk w i wr) (fun i _ => l.length - (intOf i).toNat)
  case atStart => exact ⟨0, Nat.zero_le _, rfl, fun j hj => by omega, Below.refl _ _⟩
  case round =>
    obtain ⟨k, hk, rfl, hall, hbw⟩ := hrel
    have Ha := Lib.hid hall
    have HB := Lib.hid hbw
    have k0 : (0 : Int) ≤ (k : Int) := by omega
    clear hall hbw
    by_cases c : k < l.length
    case neg =>
      have c0 : ¬ (k : Int) < (l.length : Int) := by omega
      have hv : Hid (listE lim l.length chk = 0) := list_all tl (fun i hi => Ha.out i (by omega))
      clear tl
      go_wp2_with fail
      go_ret
      exact ⟨by rw [hv.out]; try rfl, HB.out⟩
    case pos =>
      have c0 : (k : Int) < (l.length : Int) := by omega
      have c1 : (k : Int) ≤ (cap : Int) := by omega
      have c2 : (l.length : Int) ≤ (cap : Int) := by omega
      obtain ⟨x, hx⟩ : ∃ x, l[k]? = some x := ⟨_, List.getElem?_eq_getElem c⟩
      obtain ⟨b, off, rfl, hb, hc⟩ := (HL.out.next HB.out).at hx
      have t0 : wr.cell? ⟨b, off + k * 6, none⟩ = some (.string x.nm) := hc 0 _ rfl
      have t1 : wr.cell? ⟨b, off + k * 6 + 1, none⟩ = some (.int .i64 x.o) := hc 1 _ rfl
      have t2 : wr.cell? ⟨b, off + k * 6 + 2, none⟩ = some (.int .i64 x.c) := hc 2 _ rfl
      have t3 : wr.cell? ⟨b, off + k * 6 + 3, none⟩ = some (.slice x.a3 x.rest.length x.k3) := hc 3 _ rfl
      have t4 : wr.cell? ⟨b, off + k * 6 + 4, none⟩ = some (.slice x.a4 x.feasts.length x.k4) := hc 4 _ rfl
      have t5 : wr.cell? ⟨b, off + k * 6 + 5, none⟩ = some (.slice x.a5 x.shut.length x.k5) := hc 5 _ rfl
      have HX := Lib.hid hx
      clear hx hc
      have b0 := Below.new1 (w := wr) (.cells #[.string x.nm, .int .i64 x.o, .int .i64 x.c, .slice x.a3 x.rest.length x.k3, .slice x.a4 x.feasts.length x.k4, .slice x.a5 x.shut.length x.k5] 75)
      have BW := Lib.hid ((chain HB.out b0).drew)
      have x0_0 : (wr.alloc (.cells #[.string x.nm, .int .i64 x.o, .int .i64 x.c, .slice x.a3 x.rest.length x.k3, .slice x.a4 x.feasts.length x.k4, .slice x.a5 x.shut.length x.k5] 75)).cell? ⟨wr.heap.size, 0, none⟩ = some (.string x.nm) := by rw [World.cell?_alloc_new]; rfl
      have x1_0 : (wr.alloc (.cells #[.string x.nm, .int .i64 x.o, .int .i64 x.c, .slice x.a3 x.rest.length x.k3, .slice x.a4 x.feasts.length x.k4, .slice x.a5 x.shut.length x.k5] 75)).cell? ⟨wr.heap.size, 1, none⟩ = some (.int .i64 x.o) := by rw [World.cell?_alloc_new]; rfl
      have x2_0 : (wr.alloc (.cells #[.string x.nm, .int .i64 x.o, .int .i64 x.c, .slice x.a3 x.rest.length x.k3, .slice x.a4 x.feasts.length x.k4, .slice x.a5 x.shut.length x.k5] 75)).cell? ⟨wr.heap.size, 2, none⟩ = some (.int .i64 x.c) := by rw [World.cell?_alloc_new]; rfl
      have x3_0 : (wr.alloc (.cells #[.string x.nm, .int .i64 x.o, .int .i64 x.c, .slice x.a3 x.rest.length x.k3, .slice x.a4 x.feasts.length x.k4, .slice x.a5 x.shut.length x.k5] 75)).cell? ⟨wr.heap.size, 3, none⟩ = some (.slice x.a3 x.rest.length x.k3) := by rw [World.cell?_alloc_new]; rfl
      have x4_0 : (wr.alloc (.cells #[.string x.nm, .int .i64 x.o, .int .i64 x.c, .slice x.a3 x.rest.length x.k3, .slice x.a4 x.feasts.length x.k4, .slice x.a5 x.shut.length x.k5] 75)).cell? ⟨wr.heap.size, 4, none⟩ = some (.slice x.a4 x.feasts.length x.k4) := by rw [World.cell?_alloc_new]; rfl
      have x5_0 : (wr.alloc (.cells #[.string x.nm, .int .i64 x.o, .int .i64 x.c, .slice x.a3 x.rest.length x.k3, .slice x.a4 x.feasts.length x.k4, .slice x.a5 x.shut.length x.k5] 75)).cell? ⟨wr.heap.size, 5, none⟩ = some (.slice x.a5 x.shut.length x.k5) := by rw [World.cell?_alloc_new]; rfl
      clear b0
      go_wp2_with fail
      refine wp_region_held_drew (S := fun w' => w'.cell? ⟨wr.heap.size, 0, none⟩ = some (.string x.nm) ∧ w'.cell? ⟨wr.heap.size, 1, none⟩ = some (.int .i64 x.o) ∧ w'.cell? ⟨wr.heap.size, 2, none⟩ = some (.int .i64 x.c) ∧ w'.cell? ⟨wr.heap.size, 3, none⟩ = some (.slice x.a3 x.rest.length x.k3) ∧ w'.cell? ⟨wr.heap.size, 4, none⟩ = some (.slice x.a4 x.feasts.length x.k4) ∧ w'.cell? ⟨wr.heap.size, 5, none⟩ = some (.slice x.a5 x.shut.length x.k5)) (by kernel_rfl) ?_ (fun hHeld => ?_)
      · exact ⟨x0_0, x1_0, x2_0, x3_0, x4_0, x5_0⟩
      refine takeN0 (v := ?_) (by kernel_rfl) (by kernel_rfl) (by kernel_rfl) (fun _ _ _ h => h) (by rfl) ?_ (by assumption) ?_
      rotate_left
      · intro wz hSw
        try dsimp only at hSw
        go_simp
        try with_reducible rfl
      try simp only [Act.put, List.setIfInBounds_toArray, List.set_cons_zero, List.set_cons_succ]
      refine takeN1 (v := ?_) (by kernel_rfl) (by kernel_rfl) (by kernel_rfl) (fun _ _ _ h => h) (by rfl) ?_ (by assumption) ?_
      rotate_left
      · intro wz hSw
        try dsimp only at hSw
        go_simp
        try with_reducible rfl
      try simp only [Act.put, List.setIfInBounds_toArray, List.set_cons_zero, List.set_cons_succ]
      refine takeN2 (v := ?_) (by kernel_rfl) (by kernel_rfl) (by kernel_rfl) (fun _ _ _ h => h) (by rfl) ?_ (by assumption) ?_
      rotate_left
      · intro wz hSw
        try dsimp only at hSw
        go_simp
        try with_reducible rfl
      try simp only [Act.put, List.setIfInBounds_toArray, List.set_cons_zero, List.set_cons_succ]
      refine takeN3 (v := ?_) (by kernel_rfl) (by kernel_rfl) (by kernel_rfl) (fun _ _ _ h => h) (by rfl) ?_ (by assumption) ?_
      rotate_left
      · intro wz hSw
        try dsimp only at hSw
        go_simp
        try with_reducible rfl
      try simp only [Act.put, List.setIfInBounds_toArray, List.set_cons_zero, List.set_cons_succ]
      refine takeN4 (v := ?_) (by kernel_rfl) (by kernel_rfl) (by kernel_rfl) (fun _ _ _ h => h) (by rfl) ?_ (by assumption) ?_
      rotate_left
      · intro wz hSw
        try dsimp only at hSw
        go_simp
        try with_reducible rfl
      try simp only [Act.put, List.setIfInBounds_toArray, List.set_cons_zero, List.set_cons_succ]
      refine comeN5 (by kernel_rfl) (by rfl) (fun K hK => ?_)
      go_simp
      (go_at_call 158; refine (HR.out k x _ HX.out BW.out).mono ?_; rintro r w2 ⟨rfl, b2⟩)
      try go_wp2_with fail
      have x0_2 := cell_up (chain (below_drew _) b2) x0_0
      have x1_2 := cell_up (chain (below_drew _) b2) x1_0
      have x2_2 := cell_up (chain (below_drew _) b2) x2_0
      have x3_2 := cell_up (chain (below_drew _) b2) x3_0
      have x4_2 := cell_up (chain (below_drew _) b2) x4_0
      have x5_2 := cell_up (chain (below_drew _) b2) x5_0

      refine hK.out _ _ ?_ (fun hHeld => ?_)
      · exact ⟨x0_2, x1_2, x2_2, x3_2, x4_2, x5_2⟩
      clear hK K
      try simp only [Act.put, List.setIfInBounds_toArray, List.set_cons_zero, List.set_cons_succ]
      clear x0_0 x1_0 x2_0 x3_0 x4_0 x5_0
      refine takeN6 (v := ?_) (by kernel_rfl) (by kernel_rfl) (by kernel_rfl) (fun _ _ _ h => h) (by rfl) ?_ (by assumption) ?_
      rotate_left
      · intro wz hSw
        try dsimp only at hSw
        go_simp
        try with_reducible rfl
      try simp only [Act.put, List.setIfInBounds_toArray, List.set_cons_zero, List.set_cons_succ]
      refine wpAnyH_done (by kernel_rfl) ?_ _
      clear hHeld x0_2 x1_2 x2_2 x3_2 x4_2 x5_2
      have B2 := Lib.hid (chain BW.out b2)
      clear b2
      by_cases e : chk k = 0
      · have e1 : (chk k != 0) = false := nbf e
        have HN := Lib.hid (ok_step Ha.out e)
        clear e
        go_wp2_with fail
        go_roundw
        case rel => exact ⟨k + 1, by omega, by congr 1, HN.out, B2.out⟩
        case measure => simp [intOf]; omega
      · have e1 : (chk k != 0) = true := nbt e
        have hv : Hid (listE lim l.length chk = chk k) := list_at tl Ha.out e c
        clear e tl
        go_wp2_with fail
        go_ret
        exact ⟨by rw [hv.out]; try rfl, B2.out⟩

set_option maxHeartbeats 3200000 in
set_option maxRecDepth 100000 in
theorem firstGrp_x (a : Option Addr) (cap lim p : Nat) (l : List Int) (chk : Nat → Int) (w : World) (hl : GAt w (.slice a l.length cap) l) (hs : Sz l.length)
    (hR : ∀ (i : Nat) (x : Int) (w1 : World), l[i]? = some x → Below w.heap.size w w1 → Calls Tryz.prog 159 #[.slice a i cap, vGrp x, .pointer (some ⟨p, 0, none⟩)] w1 fun r w' => r = .returned (.int .i64 (chk i)) ∧ Below w1.heap.size w1 w') :
    Calls Tryz.prog 111 #[.slice a l.length cap, .int .i64 (lim : Int), .func (.func 159) #[] #[.pointer (some ⟨p, 0, none⟩)]] w fun r w' => r = .returned (.int .i64 (listE lim l.length chk)) ∧ Below w.heap.size w w' := by
  have HL := Lib.hid hl
  have HR := Lib.hid hR
  have hcap := hl.len.2
  clear hl hR
  by_cases tl : lim < l.length
  · have u1 : (lim : Int) < (l.length : Int) := by omega
    have hv : Hid (listE lim l.length chk = 6) := list_long tl
    go_enter Tryz.func111, Tryz.ntmps111
    go_wp2_with fail
    go_ret
    exact ⟨by rw [hv.out]; try rfl, Below.refl _ _⟩
  have u1 : ¬ (lim : Int) < (l.length : Int) := by omega
  go_enter Tryz.func111, Tryz.ntmps111
  go_wp2_with fail
  go_loopw [16] (fun i wr => OkRel l.length chk w i wr) (fun i _ => l.length - (intOf i).toNat)
  case atStart => exact ⟨0, Nat.zero_le _, rfl, fun j hj => by omega, Below.refl _ _⟩
  case round =>
    obtain ⟨k, hk, rfl, hall, hbw⟩ := hrel
    have Ha := Lib.hid hall
    have HB := Lib.hid hbw
    have k0 : (0 : Int) ≤ (k : Int) := by omega
    clear hall hbw
    by_cases c : k < l.length
    case neg =>
      have c0 : ¬ (k : Int) < (l.length : Int) := by omega
      have hv : Hid (listE lim l.length chk = 0) := list_all tl (fun i hi => Ha.out i (by omega))
      clear tl
      go_wp2_with fail
      go_ret
      exact ⟨by rw [hv.out]; try rfl, HB.out⟩
    case pos =>
      have c0 : (k : Int) < (l.length : Int) := by omega
      have c1 : (k : Int) ≤ (cap : Int) := by omega
      have c2 : (l.length : Int) ≤ (cap : Int) := by omega
      obtain ⟨x, hx⟩ : ∃ x, l[k]? = some x := ⟨_, List.getElem?_eq_getElem c⟩
      obtain ⟨b, off, rfl, hb, hc⟩ := (HL.out.next HB.out).at hx
      have t0 : wr.cell? ⟨b, off + k, none⟩ = some (.int .i64 x) := (by have := hc 0 _ rfl; rw [Nat.mul_one, Nat.add_zero] at this; exact this)
      have HX := Lib.hid hx
      clear hx hc
      have b0 := Below.new1 (w := wr) (.cells #[.int .i64 x] 81)
      have BW := Lib.hid ((chain HB.out b0).drew)
      have x0_0 : (wr.alloc (.cells #[.int .i64 x] 81)).cell? ⟨wr.heap.size, 0, none⟩ = some (.int .i64 x) := by rw [World.cell?_alloc_new]; rfl
      clear b0
      go_wp2_with fail
      refine wp_region_held_drew (S := fun w' => w'.cell? ⟨wr.heap.size, 0, none⟩ = some (.int .i64 x)) (by kernel_rfl) ?_ (fun hHeld => ?_)
      · exact x0_0
      refine takeN0 (v := ?_) (by kernel_rfl) (by kernel_rfl) (by kernel_rfl) (fun _ _ _ h => h) (by rfl) ?_ (by assumption) ?_
      rotate_left
      · intro wz hSw
        try dsimp only at hSw
        go_simp
        try with_reducible rfl
      try simp only [Act.put, List.setIfInBounds_toArray, List.set_cons_zero, List.set_cons_succ]
      refine takeN1 (v := ?_) (by kernel_rfl) (by kernel_rfl) (by kernel_rfl) (fun _ _ _ h => h) (by rfl) ?_ (by assumption) ?_
      rotate_left
      · intro wz hSw
        try dsimp only at hSw
        go_simp
        try with_reducible rfl
      try simp only [Act.put, List.setIfInBounds_toArray, List.set_cons_zero, List.set_cons_succ]
      refine takeN2 (v := ?_) (by kernel_rfl) (by kernel_rfl) (by kernel_rfl) (fun _ _ _ h => h) (by rfl) ?_ (by assumption) ?_
      rotate_left
      · intro wz hSw
        try dsimp only at hSw
        go_simp
        try with_reducible rfl
      try simp only [Act.put, List.setIfInBounds_toArray, List.set_cons_zero, List.set_cons_succ]
      refine takeN3 (v := ?_) (by kernel_rfl) (by kernel_rfl) (by kernel_rfl) (fun _ _ _ h => h) (by rfl) ?_ (by assumption) ?_
      rotate_left
      · intro wz hSw
        try dsimp only at hSw
        go_simp
        try with_reducible rfl
      try simp only [Act.put, List.setIfInBounds_toArray, List.set_cons_zero, List.set_cons_succ]
      refine takeN4 (v := ?_) (by kernel_rfl) (by kernel_rfl) (by kernel_rfl) (fun _ _ _ h => h) (by rfl) ?_ (by assumption) ?_
      rotate_left
      · intro wz hSw
        try dsimp only at hSw
        go_simp
        try with_reducible rfl
      try simp only [Act.put, List.setIfInBounds_toArray, List.set_cons_zero, List.set_cons_succ]
      refine comeN5 (by kernel_rfl) (by rfl) (fun K hK => ?_)
      go_simp
      (go_at_call 159; refine (HR.out k x _ HX.out BW.out).mono ?_; rintro r w2 ⟨rfl, b2⟩)
      try go_wp2_with fail
      have x0_2 := cell_up (chain (below_drew _) b2) x0_0

      refine hK.out _ _ ?_ (fun hHeld => ?_)
      · exact x0_2
      clear hK K
      try simp only [Act.put, List.setIfInBounds_toArray, List.set_cons_zero, List.set_cons_succ]
      clear x0_0
      refine takeN6 (v := ?_) (by kernel_rfl) (by kernel_rfl) (by kernel_rfl) (fun _ _ _ h => h) (by rfl) ?_ (by assumption) ?_
      rotate_left
      · intro wz hSw
        try dsimp only at hSw
        go_simp
        try with_reducible rfl
      try simp only [Act.put, List.setIfInBounds_toArray, List.set_cons_zero, List.set_cons_succ]
      refine wpAnyH_done (by kernel_rfl) ?_ _
      clear hHeld x0_2
      have B2 := Lib.hid (chain BW.out b2)
      clear b2
      by_cases e : chk k = 0
      · have e1 : (chk k != 0) = false := nbf e
        have HN := Lib.hid (ok_step Ha.out e)
        clear e
        go_wp2_with fail
        go_roundw
        case rel => exact ⟨k + 1, by omega, by congr 1, HN.out, B2.out⟩
        case measure => simp [intOf]; omega
      · have e1 : (chk k != 0) = true := nbt e
        have hv : Hid (listE lim l.length chk = chk k) := list_at tl Ha.out e c
        clear e tl
        go_wp2_with fail
        go_ret
        exact ⟨by rw [hv.out]; try rfl, B2.out⟩

set_option maxHeartbeats 3200000 in
set_option maxRecDepth 100000 in
theorem firstFrm_x (a : Option Addr) (cap lim p q : Nat) (l : List Frm) (chk : Nat → Int) (w : World) (hl : FAt w (.slice a l.length cap) l) (hs : Sz l.length)
    (hR : ∀ (i : Nat) (x : Frm) (w1 : World), l[i]? = some x → Below w.heap.size w w1 → Calls Tryz.prog 160 #[.slice a i cap, vFrm x, .pointer (some ⟨p, 0, none⟩), .pointer (some ⟨q, 0, none⟩)] w1 fun r w' => r = .returned (.int .i64 (chk i)) ∧ Below w1.heap.size w1 w') :
    Calls Tryz.prog 116 #[.slice a l.length cap, .int .i64 (lim : Int), .func (.func 160) #[] #[.pointer (some ⟨p, 0, none⟩), .pointer (some ⟨q, 0, none⟩)]] w fun r w' => r = .returned (.int .i64 (listE lim l.length chk)) ∧ Below w.heap.size w w' := by
  have HL := Lib.hid hl
  have HR := Lib.hid hR
  have hcap := hl.len.2
  clear hl hR
  by_cases tl : lim < l.length
  · have u1 : (lim : Int) < (l.length : Int) := by omega
    have hv : Hid (listE lim l.length chk = 6) := list_long tl
    go_enter Tryz.func116, Tryz.ntmps116
    go_wp2_with fail
    go_ret
    exact ⟨by rw [hv.out]; try rfl, Below.refl _ _⟩
  have u1 : ¬ (lim : Int) < (l.length : Int) := by omega
  go_enter Tryz.func116, Tryz.ntmps116
  go_wp2_with fail
  go_loopw [16] (fun i wr => OkRel l.length chk w i wr) (fun i _ => l.length - (intOf i).toNat)
  case atStart => exact ⟨0, Nat.zero_le _, rfl, fun j hj => by omega, Below.refl _ _⟩
  case round =>
    obtain ⟨k, hk, rfl, hall, hbw⟩ := hrel
    have Ha := Lib.hid hall
    have HB := Lib.hid hbw
    have k0 : (0 : Int) ≤ (k : Int) := by omega
    clear hall hbw
    by_cases c : k < l.length
    case neg =>
      have c0 : ¬ (k : Int) < (l.length : Int) := by omega
      have hv : Hid (listE lim l.length chk = 0) := list_all tl (fun i hi => Ha.out i (by omega))
      clear tl
      go_wp2_with fail
      go_ret
      exact ⟨by rw [hv.out]; try rfl, HB.out⟩
    case pos =>
      have c0 : (k : Int) < (l.length : Int) := by omega
      have c1 : (k : Int) ≤ (cap : Int) := by omega
      have c2 : (l.length : Int) ≤ (cap : Int) := by omega
      obtain ⟨x, hx⟩ : ∃ x, l[k]? = some x := ⟨_, List.getElem?_eq_getElem c⟩
      obtain ⟨b, off, rfl, hb, hc⟩ := (HL.out.next HB.out).at hx
      have t0 : wr.cell? ⟨b, off + k * 3, none⟩ = some (.string x.nm) := hc 0 _ rfl
      have t1 : wr.cell? ⟨b, off + k * 3 + 1, none⟩ = some (.int .i64 x.city) := hc 1 _ rfl
      have t2 : wr.cell? ⟨b, off + k * 3 + 2, none⟩ = some (.int .i64 x.grp) := hc 2 _ rfl
      have HX := Lib.hid hx
      clear hx hc
      have b0 := Below.new1 (w := wr) (.cells #[.string x.nm, .int .i64 x.city, .int .i64 x.grp] 78)
      have BW := Lib.hid ((chain HB.out b0).drew)
      have x0_0 : (wr.alloc (.cells #[.string x.nm, .int .i64 x.city, .int .i64 x.grp] 78)).cell? ⟨wr.heap.size, 0, none⟩ = some (.string x.nm) := by rw [World.cell?_alloc_new]; rfl
      have x1_0 : (wr.alloc (.cells #[.string x.nm, .int .i64 x.city, .int .i64 x.grp] 78)).cell? ⟨wr.heap.size, 1, none⟩ = some (.int .i64 x.city) := by rw [World.cell?_alloc_new]; rfl
      have x2_0 : (wr.alloc (.cells #[.string x.nm, .int .i64 x.city, .int .i64 x.grp] 78)).cell? ⟨wr.heap.size, 2, none⟩ = some (.int .i64 x.grp) := by rw [World.cell?_alloc_new]; rfl
      clear b0
      go_wp2_with fail
      refine wp_region_held_drew (S := fun w' => w'.cell? ⟨wr.heap.size, 0, none⟩ = some (.string x.nm) ∧ w'.cell? ⟨wr.heap.size, 1, none⟩ = some (.int .i64 x.city) ∧ w'.cell? ⟨wr.heap.size, 2, none⟩ = some (.int .i64 x.grp)) (by kernel_rfl) ?_ (fun hHeld => ?_)
      · exact ⟨x0_0, x1_0, x2_0⟩
      refine takeN0 (v := ?_) (by kernel_rfl) (by kernel_rfl) (by kernel_rfl) (fun _ _ _ h => h) (by rfl) ?_ (by assumption) ?_
      rotate_left
      · intro wz hSw
        try dsimp only at hSw
        go_simp
        try with_reducible rfl
      try simp only [Act.put, List.setIfInBounds_toArray, List.set_cons_zero, List.set_cons_succ]
      refine takeN1 (v := ?_) (by kernel_rfl) (by kernel_rfl) (by kernel_rfl) (fun _ _ _ h => h) (by rfl) ?_ (by assumption) ?_
      rotate_left
      · intro wz hSw
        try dsimp only at hSw
        go_simp
        try with_reducible rfl
      try simp only [Act.put, List.setIfInBounds_toArray, List.set_cons_zero, List.set_cons_succ]
      refine takeN2 (v := ?_) (by kernel_rfl) (by kernel_rfl) (by kernel_rfl) (fun _ _ _ h => h) (by rfl) ?_ (by assumption) ?_
      rotate_left
      · intro wz hSw
        try dsimp only at hSw
        go_simp
        try with_reducible rfl
      try simp only [Act.put, List.setIfInBounds_toArray, List.set_cons_zero, List.set_cons_succ]
      refine takeN3 (v := ?_) (by kernel_rfl) (by kernel_rfl) (by kernel_rfl) (fun _ _ _ h => h) (by rfl) ?_ (by assumption) ?_
      rotate_left
      · intro wz hSw
        try dsimp only at hSw
        go_simp
        try with_reducible rfl
      try simp only [Act.put, List.setIfInBounds_toArray, List.set_cons_zero, List.set_cons_succ]
      refine takeN4 (v := ?_) (by kernel_rfl) (by kernel_rfl) (by kernel_rfl) (fun _ _ _ h => h) (by rfl) ?_ (by assumption) ?_
      rotate_left
      · intro wz hSw
        try dsimp only at hSw
        go_simp
        try with_reducible rfl
      try simp only [Act.put, List.setIfInBounds_toArray, List.set_cons_zero, List.set_cons_succ]
      refine comeN5 (by kernel_rfl) (by rfl) (fun K hK => ?_)
      go_simp
      (go_at_call 160; refine (HR.out k x _ HX.out BW.out).mono ?_; rintro r w2 ⟨rfl, b2⟩)
      try go_wp2_with fail
      have x0_2 := cell_up (chain (below_drew _) b2) x0_0
      have x1_2 := cell_up (chain (below_drew _) b2) x1_0
      have x2_2 := cell_up (chain (below_drew _) b2) x2_0

      refine hK.out _ _ ?_ (fun hHeld => ?_)
      · exact ⟨x0_2, x1_2, x2_2⟩
      clear hK K
      try simp only [Act.put, List.setIfInBounds_toArray, List.set_cons_zero, List.set_cons_succ]
      clear x0_0 x1_0 x2_0
      refine takeN6 (v := ?_) (by kernel_rfl) (by kernel_rfl) (by kernel_rfl) (fun _ _ _ h => h) (by rfl) ?_ (by assumption) ?_
      rotate_left
      · intro wz hSw
        try dsimp only at hSw
        go_simp
        try with_reducible rfl
      try simp only [Act.put, List.setIfInBounds_toArray, List.set_cons_zero, List.set_cons_succ]
      refine wpAnyH_done (by kernel_rfl) ?_ _
      clear hHeld x0_2 x1_2 x2_2
      have B2 := Lib.hid (chain BW.out b2)
      clear b2
      by_cases e : chk k = 0
      · have e1 : (chk k != 0) = false := nbf e
        have HN := Lib.hid (ok_step Ha.out e)
        clear e
        go_wp2_with fail
        go_roundw
        case rel => exact ⟨k + 1, by omega, by congr 1, HN.out, B2.out⟩
        case measure => simp [intOf]; omega
      · have e1 : (chk k != 0) = true := nbt e
        have hv : Hid (listE lim l.length chk = chk k) := list_at tl Ha.out e c
        clear e tl
        go_wp2_with fail
        go_ret
        exact ⟨by rw [hv.out]; try rfl, B2.out⟩

set_option maxHeartbeats 3200000 in
set_option maxRecDepth 100000 in
theorem firstOdr_x (a : Option Addr) (cap lim p q : Nat) (l : List Odr) (chk : Nat → Int) (w : World) (hl : OAt w (.slice a l.length cap) l) (hs : Sz l.length)
    (hR : ∀ (i : Nat) (x : Odr) (w1 : World), l[i]? = some x → Below w.heap.size w w1 → Calls Tryz.prog 161 #[.slice a i cap, vOdr x, .pointer (some ⟨p, 0, none⟩), .pointer (some ⟨q, 0, none⟩)] w1 fun r w' => r = .returned (.int .i64 (chk i)) ∧ Below w1.heap.size w1 w') :
    Calls Tryz.prog 122 #[.slice a l.length cap, .int .i64 (lim : Int), .func (.func 161) #[] #[.pointer (some ⟨p, 0, none⟩), .pointer (some ⟨q, 0, none⟩)]] w fun r w' => r = .returned (.int .i64 (listE lim l.length chk)) ∧ Below w.heap.size w w' := by
  have HL := Lib.hid hl
  have HR := Lib.hid hR
  have hcap := hl.len.2
  clear hl hR
  by_cases tl : lim < l.length
  · have u1 : (lim : Int) < (l.length : Int) := by omega
    have hv : Hid (listE lim l.length chk = 6) := list_long tl
    go_enter Tryz.func122, Tryz.ntmps122
    go_wp2_with fail
    go_ret
    exact ⟨by rw [hv.out]; try rfl, Below.refl _ _⟩
  have u1 : ¬ (lim : Int) < (l.length : Int) := by omega
  go_enter Tryz.func122, Tryz.ntmps122
  go_wp2_with fail
  go_loopw [16] (fun i wr => OkRel l.length chk w i wr) (fun i _ => l.length - (intOf i).toNat)
  case atStart => exact ⟨0, Nat.zero_le _, rfl, fun j hj => by omega, Below.refl _ _⟩
  case round =>
    obtain ⟨k, hk, rfl, hall, hbw⟩ := hrel
    have Ha := Lib.hid hall
    have HB := Lib.hid hbw
    have k0 : (0 : Int) ≤ (k : Int) := by omega
    clear hall hbw
    by_cases c : k < l.length
    case neg =>
      have c0 : ¬ (k : Int) < (l.length : Int) := by omega
      have hv : Hid (listE lim l.length chk = 0) := list_all tl (fun i hi => Ha.out i (by omega))
      clear tl
      go_wp2_with fail
      go_ret
      exact ⟨by rw [hv.out]; try rfl, HB.out⟩
    case pos =>
      have c0 : (k : Int) < (l.length : Int) := by omega
      have c1 : (k : Int) ≤ (cap : Int) := by omega
      have c2 : (l.length : Int) ≤ (cap : Int) := by omega
      obtain ⟨x, hx⟩ : ∃ x, l[k]? = some x := ⟨_, List.getElem?_eq_getElem c⟩
      obtain ⟨b, off, rfl, hb, hc⟩ := (HL.out.next HB.out).at hx
      have t0 : wr.cell? ⟨b, off + k * 4, none⟩ = some (.string x.nm) := hc 0 _ rfl
      have t1 : wr.cell? ⟨b, off + k * 4 + 1, none⟩ = some (.bool x.acc) := hc 1 _ rfl
      have t2 : wr.cell? ⟨b, off + k * 4 + 2, none⟩ = some (.slice x.a2 x.ch.length x.k2) := hc 2 _ rfl
      have t3 : wr.cell? ⟨b, off + k * 4 + 3, none⟩ = some (.slice x.a3 x.ru.length x.k3) := hc 3 _ rfl
      have HX := Lib.hid hx
      clear hx hc
      have b0 := Below.new1 (w := wr) (.cells #[.string x.nm, .bool x.acc, .slice x.a2 x.ch.length x.k2, .slice x.a3 x.ru.length x.k3] 85)
      have BW := Lib.hid ((chain HB.out b0).drew)
      have x0_0 : (wr.alloc (.cells #[.string x.nm, .bool x.acc, .slice x.a2 x.ch.length x.k2, .slice x.a3 x.ru.length x.k3] 85)).cell? ⟨wr.heap.size, 0, none⟩ = some (.string x.nm) := by rw [World.cell?_alloc_new]; rfl
      have x1_0 : (wr.alloc (.cells #[.string x.nm, .bool x.acc, .slice x.a2 x.ch.length x.k2, .slice x.a3 x.ru.length x.k3] 85)).cell? ⟨wr.heap.size, 1, none⟩ = some (.bool x.acc) := by rw [World.cell?_alloc_new]; rfl
      have x2_0 : (wr.alloc (.cells #[.string x.nm, .bool x.acc, .slice x.a2 x.ch.length x.k2, .slice x.a3 x.ru.length x.k3] 85)).cell? ⟨wr.heap.size, 2, none⟩ = some (.slice x.a2 x.ch.length x.k2) := by rw [World.cell?_alloc_new]; rfl
      have x3_0 : (wr.alloc (.cells #[.string x.nm, .bool x.acc, .slice x.a2 x.ch.length x.k2, .slice x.a3 x.ru.length x.k3] 85)).cell? ⟨wr.heap.size, 3, none⟩ = some (.slice x.a3 x.ru.length x.k3) := by rw [World.cell?_alloc_new]; rfl
      clear b0
      go_wp2_with fail
      refine wp_region_held_drew (S := fun w' => w'.cell? ⟨wr.heap.size, 0, none⟩ = some (.string x.nm) ∧ w'.cell? ⟨wr.heap.size, 1, none⟩ = some (.bool x.acc) ∧ w'.cell? ⟨wr.heap.size, 2, none⟩ = some (.slice x.a2 x.ch.length x.k2) ∧ w'.cell? ⟨wr.heap.size, 3, none⟩ = some (.slice x.a3 x.ru.length x.k3)) (by kernel_rfl) ?_ (fun hHeld => ?_)
      · exact ⟨x0_0, x1_0, x2_0, x3_0⟩
      refine takeN0 (v := ?_) (by kernel_rfl) (by kernel_rfl) (by kernel_rfl) (fun _ _ _ h => h) (by rfl) ?_ (by assumption) ?_
      rotate_left
      · intro wz hSw
        try dsimp only at hSw
        go_simp
        try with_reducible rfl
      try simp only [Act.put, List.setIfInBounds_toArray, List.set_cons_zero, List.set_cons_succ]
      refine takeN1 (v := ?_) (by kernel_rfl) (by kernel_rfl) (by kernel_rfl) (fun _ _ _ h => h) (by rfl) ?_ (by assumption) ?_
      rotate_left
      · intro wz hSw
        try dsimp only at hSw
        go_simp
        try with_reducible rfl
      try simp only [Act.put, List.setIfInBounds_toArray, List.set_cons_zero, List.set_cons_succ]
      refine takeN2 (v := ?_) (by kernel_rfl) (by kernel_rfl) (by kernel_rfl) (fun _ _ _ h => h) (by rfl) ?_ (by assumption) ?_
      rotate_left
      · intro wz hSw
        try dsimp only at hSw
        go_simp
        try with_reducible rfl
      try simp only [Act.put, List.setIfInBounds_toArray, List.set_cons_zero, List.set_cons_succ]
      refine takeN3 (v := ?_) (by kernel_rfl) (by kernel_rfl) (by kernel_rfl) (fun _ _ _ h => h) (by rfl) ?_ (by assumption) ?_
      rotate_left
      · intro wz hSw
        try dsimp only at hSw
        go_simp
        try with_reducible rfl
      try simp only [Act.put, List.setIfInBounds_toArray, List.set_cons_zero, List.set_cons_succ]
      refine takeN4 (v := ?_) (by kernel_rfl) (by kernel_rfl) (by kernel_rfl) (fun _ _ _ h => h) (by rfl) ?_ (by assumption) ?_
      rotate_left
      · intro wz hSw
        try dsimp only at hSw
        go_simp
        try with_reducible rfl
      try simp only [Act.put, List.setIfInBounds_toArray, List.set_cons_zero, List.set_cons_succ]
      refine comeN5 (by kernel_rfl) (by rfl) (fun K hK => ?_)
      go_simp
      (go_at_call 161; refine (HR.out k x _ HX.out BW.out).mono ?_; rintro r w2 ⟨rfl, b2⟩)
      try go_wp2_with fail
      have x0_2 := cell_up (chain (below_drew _) b2) x0_0
      have x1_2 := cell_up (chain (below_drew _) b2) x1_0
      have x2_2 := cell_up (chain (below_drew _) b2) x2_0
      have x3_2 := cell_up (chain (below_drew _) b2) x3_0

      refine hK.out _ _ ?_ (fun hHeld => ?_)
      · exact ⟨x0_2, x1_2, x2_2, x3_2⟩
      clear hK K
      try simp only [Act.put, List.setIfInBounds_toArray, List.set_cons_zero, List.set_cons_succ]
      clear x0_0 x1_0 x2_0 x3_0
      refine takeN6 (v := ?_) (by kernel_rfl) (by kernel_rfl) (by kernel_rfl) (fun _ _ _ h => h) (by rfl) ?_ (by assumption) ?_
      rotate_left
      · intro wz hSw
        try dsimp only at hSw
        go_simp
        try with_reducible rfl
      try simp only [Act.put, List.setIfInBounds_toArray, List.set_cons_zero, List.set_cons_succ]
      refine wpAnyH_done (by kernel_rfl) ?_ _
      clear hHeld x0_2 x1_2 x2_2 x3_2
      have B2 := Lib.hid (chain BW.out b2)
      clear b2
      by_cases e : chk k = 0
      · have e1 : (chk k != 0) = false := nbf e
        have HN := Lib.hid (ok_step Ha.out e)
        clear e
        go_wp2_with fail
        go_roundw
        case rel => exact ⟨k + 1, by omega, by congr 1, HN.out, B2.out⟩
        case measure => simp [intOf]; omega
      · have e1 : (chk k != 0) = true := nbt e
        have hv : Hid (listE lim l.length chk = chk k) := list_at tl Ha.out e c
        clear e tl
        go_wp2_with fail
        go_ret
        exact ⟨by rw [hv.out]; try rfl, B2.out⟩

set_option maxHeartbeats 3200000 in
set_option maxRecDepth 100000 in
theorem firstUsn_x (a : Option Addr) (cap lim p : Nat) (l : List Usn) (chk : Nat → Int) (w : World) (hl : UAt w (.slice a l.length cap) l) (hs : Sz l.length)
    (hR : ∀ (i : Nat) (x : Usn) (w1 : World), l[i]? = some x → Below w.heap.size w w1 → Calls Tryz.prog 125 #[.slice a i cap, vUsn x, .pointer (some ⟨p, 0, none⟩)] w1 fun r w' => r = .returned (.int .i64 (chk i)) ∧ Below w1.heap.size w1 w') :
    Calls Tryz.prog 128 #[.slice a l.length cap, .int .i64 (lim : Int), .func (.func 125) #[] #[.pointer (some ⟨p, 0, none⟩)]] w fun r w' => r = .returned (.int .i64 (listE lim l.length chk)) ∧ Below w.heap.size w w' := by
  have HL := Lib.hid hl
  have HR := Lib.hid hR
  have hcap := hl.len.2
  clear hl hR
  by_cases tl : lim < l.length
  · have u1 : (lim : Int) < (l.length : Int) := by omega
    have hv : Hid (listE lim l.length chk = 6) := list_long tl
    go_enter Tryz.func128, Tryz.ntmps128
    go_wp2_with fail
    go_ret
    exact ⟨by rw [hv.out]; try rfl, Below.refl _ _⟩
  have u1 : ¬ (lim : Int) < (l.length : Int) := by omega
  go_enter Tryz.func128, Tryz.ntmps128
  go_wp2_with fail
  go_loopw [16] (fun i wr => OkRel l.length chk w i wr) (fun i _ => l.length - (intOf i).toNat)
  case atStart => exact ⟨0, Nat.zero_le _, rfl, fun j hj => by omega, Below.refl _ _⟩
  case round =>
    obtain ⟨k, hk, rfl, hall, hbw⟩ := hrel
    have Ha := Lib.hid hall
    have HB := Lib.hid hbw
    have k0 : (0 : Int) ≤ (k : Int) := by omega
    clear hall hbw
    by_cases c : k < l.length
    case neg =>
      have c0 : ¬ (k : Int) < (l.length : Int) := by omega
      have hv : Hid (listE lim l.length chk = 0) := list_all tl (fun i hi => Ha.out i (by omega))
      clear tl
      go_wp2_with fail
      go_ret
      exact ⟨by rw [hv.out]; try rfl, HB.out⟩
    case pos =>
      have c0 : (k : Int) < (l.length : Int) := by omega
      have c1 : (k : Int) ≤ (cap : Int) := by omega
      have c2 : (l.length : Int) ≤ (cap : Int) := by omega
      obtain ⟨x, hx⟩ : ∃ x, l[k]? = some x := ⟨_, List.getElem?_eq_getElem c⟩
      obtain ⟨b, off, rfl, hb, hc⟩ := (HL.out.next HB.out).at hx
      have t0 : wr.cell? ⟨b, off + k * 3, none⟩ = some (.int .i64 x.fr) := hc 0 _ rfl
      have t1 : wr.cell? ⟨b, off + k * 3 + 1, none⟩ = some (.int .i64 x.to) := hc 1 _ rfl
      have t2 : wr.cell? ⟨b, off + k * 3 + 2, none⟩ = some (.int .i64 x.days) := hc 2 _ rfl
      have HX := Lib.hid hx
      clear hx hc
      have b0 := Below.new1 (w := wr) (.cells #[.int .i64 x.fr, .int .i64 x.to, .int .i64 x.days] 97)
      have BW := Lib.hid ((chain HB.out b0).drew)
      have x0_0 : (wr.alloc (.cells #[.int .i64 x.fr, .int .i64 x.to, .int .i64 x.days] 97)).cell? ⟨wr.heap.size, 0, none⟩ = some (.int .i64 x.fr) := by rw [World.cell?_alloc_new]; rfl
      have x1_0 : (wr.alloc (.cells #[.int .i64 x.fr, .int .i64 x.to, .int .i64 x.days] 97)).cell? ⟨wr.heap.size, 1, none⟩ = some (.int .i64 x.to) := by rw [World.cell?_alloc_new]; rfl
      have x2_0 : (wr.alloc (.cells #[.int .i64 x.fr, .int .i64 x.to, .int .i64 x.days] 97)).cell? ⟨wr.heap.size, 2, none⟩ = some (.int .i64 x.days) := by rw [World.cell?_alloc_new]; rfl
      clear b0
      go_wp2_with fail
      refine wp_region_held_drew (S := fun w' => w'.cell? ⟨wr.heap.size, 0, none⟩ = some (.int .i64 x.fr) ∧ w'.cell? ⟨wr.heap.size, 1, none⟩ = some (.int .i64 x.to) ∧ w'.cell? ⟨wr.heap.size, 2, none⟩ = some (.int .i64 x.days)) (by kernel_rfl) ?_ (fun hHeld => ?_)
      · exact ⟨x0_0, x1_0, x2_0⟩
      refine takeN0 (v := ?_) (by kernel_rfl) (by kernel_rfl) (by kernel_rfl) (fun _ _ _ h => h) (by rfl) ?_ (by assumption) ?_
      rotate_left
      · intro wz hSw
        try dsimp only at hSw
        go_simp
        try with_reducible rfl
      try simp only [Act.put, List.setIfInBounds_toArray, List.set_cons_zero, List.set_cons_succ]
      refine takeN1 (v := ?_) (by kernel_rfl) (by kernel_rfl) (by kernel_rfl) (fun _ _ _ h => h) (by rfl) ?_ (by assumption) ?_
      rotate_left
      · intro wz hSw
        try dsimp only at hSw
        go_simp
        try with_reducible rfl
      try simp only [Act.put, List.setIfInBounds_toArray, List.set_cons_zero, List.set_cons_succ]
      refine takeN2 (v := ?_) (by kernel_rfl) (by kernel_rfl) (by kernel_rfl) (fun _ _ _ h => h) (by rfl) ?_ (by assumption) ?_
      rotate_left
      · intro wz hSw
        try dsimp only at hSw
        go_simp
        try with_reducible rfl
      try simp only [Act.put, List.setIfInBounds_toArray, List.set_cons_zero, List.set_cons_succ]
      refine takeN3 (v := ?_) (by kernel_rfl) (by kernel_rfl) (by kernel_rfl) (fun _ _ _ h => h) (by rfl) ?_ (by assumption) ?_
      rotate_left
      · intro wz hSw
        try dsimp only at hSw
        go_simp
        try with_reducible rfl
      try simp only [Act.put, List.setIfInBounds_toArray, List.set_cons_zero, List.set_cons_succ]
      refine takeN4 (v := ?_) (by kernel_rfl) (by kernel_rfl) (by kernel_rfl) (fun _ _ _ h => h) (by rfl) ?_ (by assumption) ?_
      rotate_left
      · intro wz hSw
        try dsimp only at hSw
        go_simp
        try with_reducible rfl
      try simp only [Act.put, List.setIfInBounds_toArray, List.set_cons_zero, List.set_cons_succ]
      refine comeN5 (by kernel_rfl) (by rfl) (fun K hK => ?_)
      go_simp
      (go_at_call 125; refine (HR.out k x _ HX.out BW.out).mono ?_; rintro r w2 ⟨rfl, b2⟩)
      try go_wp2_with fail
      have x0_2 := cell_up (chain (below_drew _) b2) x0_0
      have x1_2 := cell_up (chain (below_drew _) b2) x1_0
      have x2_2 := cell_up (chain (below_drew _) b2) x2_0

      refine hK.out _ _ ?_ (fun hHeld => ?_)
      · exact ⟨x0_2, x1_2, x2_2⟩
      clear hK K
      try simp only [Act.put, List.setIfInBounds_toArray, List.set_cons_zero, List.set_cons_succ]
      clear x0_0 x1_0 x2_0
      refine takeN6 (v := ?_) (by kernel_rfl) (by kernel_rfl) (by kernel_rfl) (fun _ _ _ h => h) (by rfl) ?_ (by assumption) ?_
      rotate_left
      · intro wz hSw
        try dsimp only at hSw
        go_simp
        try with_reducible rfl
      try simp only [Act.put, List.setIfInBounds_toArray, List.set_cons_zero, List.set_cons_succ]
      refine wpAnyH_done (by kernel_rfl) ?_ _
      clear hHeld x0_2 x1_2 x2_2
      have B2 := Lib.hid (chain BW.out b2)
      clear b2
      by_cases e : chk k = 0
      · have e1 : (chk k != 0) = false := nbf e
        have HN := Lib.hid (ok_step Ha.out e)
        clear e
        go_wp2_with fail
        go_roundw
        case rel => exact ⟨k + 1, by omega, by congr 1, HN.out, B2.out⟩
        case measure => simp [intOf]; omega
      · have e1 : (chk k != 0) = true := nbt e
        have hv : Hid (listE lim l.length chk = chk k) := list_at tl Ha.out e c
        clear e tl
        go_wp2_with fail
        go_ret
        exact ⟨by rw [hv.out]; try rfl, B2.out⟩

set_option maxHeartbeats 3200000 in
set_option maxRecDepth 100000 in
theorem firstRte_x (a : Option Addr) (cap lim p : Nat) (l : List Rte) (chk : Nat → Int) (w : World) (hl : XAt w (.slice a l.length cap) l) (hs : Sz l.length)
    (hR : ∀ (i : Nat) (x : Rte) (w1 : World), l[i]? = some x → Below w.heap.size w w1 → Calls Tryz.prog 164 #[.slice a i cap, vRat x, .pointer (some ⟨p, 0, none⟩)] w1 fun r w' => r = .returned (.int .i64 (chk i)) ∧ Below w1.heap.size w1 w') :
    Calls Tryz.prog 130 #[.slice a l.length cap, .int .i64 (lim : Int), .func (.func 164) #[] #[.pointer (some ⟨p, 0, none⟩)]] w fun r w' => r = .returned (.int .i64 (listE lim l.length chk)) ∧ Below w.heap.size w w' := by
  have HL := Lib.hid hl
  have HR := Lib.hid hR
  have hcap := hl.len.2
  clear hl hR
  by_cases tl : lim < l.length
  · have u1 : (lim : Int) < (l.length : Int) := by omega
    have hv : Hid (listE lim l.length chk = 6) := list_long tl
    go_enter Tryz.func130, Tryz.ntmps130
    go_wp2_with fail
    go_ret
    exact ⟨by rw [hv.out]; try rfl, Below.refl _ _⟩
  have u1 : ¬ (lim : Int) < (l.length : Int) := by omega
  go_enter Tryz.func130, Tryz.ntmps130
  go_wp2_with fail
  go_loopw [16] (fun i wr => OkRel l.length chk w i wr) (fun i _ => l.length - (intOf i).toNat)
  case atStart => exact ⟨0, Nat.zero_le _, rfl, fun j hj => by omega, Below.refl _ _⟩
  case round =>
    obtain ⟨k, hk, rfl, hall, hbw⟩ := hrel
    have Ha := Lib.hid hall
    have HB := Lib.hid hbw
    have k0 : (0 : Int) ≤ (k : Int) := by omega
    clear hall hbw
    by_cases c : k < l.length
    case neg =>
      have c0 : ¬ (k : Int) < (l.length : Int) := by omega
      have hv : Hid (listE lim l.length chk = 0) := list_all tl (fun i hi => Ha.out i (by omega))
      clear tl
      go_wp2_with fail
      go_ret
      exact ⟨by rw [hv.out]; try rfl, HB.out⟩
    case pos =>
      have c0 : (k : Int) < (l.length : Int) := by omega
      have c1 : (k : Int) ≤ (cap : Int) := by omega
      have c2 : (l.length : Int) ≤ (cap : Int) := by omega
      obtain ⟨x, hx⟩ : ∃ x, l[k]? = some x := ⟨_, List.getElem?_eq_getElem c⟩
      obtain ⟨b, off, rfl, hb, hc⟩ := (HL.out.next HB.out).at hx
      have t0 : wr.cell? ⟨b, off + k * 5, none⟩ = some (.int .i64 x.fr) := hc 0 _ rfl
      have t1 : wr.cell? ⟨b, off + k * 5 + 1, none⟩ = some (.int .i64 x.to) := hc 1 _ rfl
      have t2 : wr.cell? ⟨b, off + k * 5 + 2, none⟩ = some (.int .i64 x.num) := hc 2 _ rfl
      have t3 : wr.cell? ⟨b, off + k * 5 + 3, none⟩ = some (.int .i64 x.den) := hc 3 _ rfl
      have t4 : wr.cell? ⟨b, off + k * 5 + 4, none⟩ = some (.int .i64 x.since) := hc 4 _ rfl
      have HX := Lib.hid hx
      clear hx hc
      have b0 := Below.new1 (w := wr) (.cells #[.int .i64 x.fr, .int .i64 x.to, .int .i64 x.num, .int .i64 x.den, .int .i64 x.since] 150)
      have BW := Lib.hid ((chain HB.out b0).drew)
      have x0_0 : (wr.alloc (.cells #[.int .i64 x.fr, .int .i64 x.to, .int .i64 x.num, .int .i64 x.den, .int .i64 x.since] 150)).cell? ⟨wr.heap.size, 0, none⟩ = some (.int .i64 x.fr) := by rw [World.cell?_alloc_new]; rfl
      have x1_0 : (wr.alloc (.cells #[.int .i64 x.fr, .int .i64 x.to, .int .i64 x.num, .int .i64 x.den, .int .i64 x.since] 150)).cell? ⟨wr.heap.size, 1, none⟩ = some (.int .i64 x.to) := by rw [World.cell?_alloc_new]; rfl
      have x2_0 : (wr.alloc (.cells #[.int .i64 x.fr, .int .i64 x.to, .int .i64 x.num, .int .i64 x.den, .int .i64 x.since] 150)).cell? ⟨wr.heap.size, 2, none⟩ = some (.int .i64 x.num) := by rw [World.cell?_alloc_new]; rfl
      have x3_0 : (wr.alloc (.cells #[.int .i64 x.fr, .int .i64 x.to, .int .i64 x.num, .int .i64 x.den, .int .i64 x.since] 150)).cell? ⟨wr.heap.size, 3, none⟩ = some (.int .i64 x.den) := by rw [World.cell?_alloc_new]; rfl
      have x4_0 : (wr.alloc (.cells #[.int .i64 x.fr, .int .i64 x.to, .int .i64 x.num, .int .i64 x.den, .int .i64 x.since] 150)).cell? ⟨wr.heap.size, 4, none⟩ = some (.int .i64 x.since) := by rw [World.cell?_alloc_new]; rfl
      clear b0
      go_wp2_with fail
      refine wp_region_held_drew (S := fun w' => w'.cell? ⟨wr.heap.size, 0, none⟩ = some (.int .i64 x.fr) ∧ w'.cell? ⟨wr.heap.size, 1, none⟩ = some (.int .i64 x.to) ∧ w'.cell? ⟨wr.heap.size, 2, none⟩ = some (.int .i64 x.num) ∧ w'.cell? ⟨wr.heap.size, 3, none⟩ = some (.int .i64 x.den) ∧ w'.cell? ⟨wr.heap.size, 4, none⟩ = some (.int .i64 x.since)) (by kernel_rfl) ?_ (fun hHeld => ?_)
      · exact ⟨x0_0, x1_0, x2_0, x3_0, x4_0⟩
      refine takeN0 (v := ?_) (by kernel_rfl) (by kernel_rfl) (by kernel_rfl) (fun _ _ _ h => h) (by rfl) ?_ (by assumption) ?_
      rotate_left
      · intro wz hSw
        try dsimp only at hSw
        go_simp
        try with_reducible rfl
      try simp only [Act.put, List.setIfInBounds_toArray, List.set_cons_zero, List.set_cons_succ]
      refine takeN1 (v := ?_) (by kernel_rfl) (by kernel_rfl) (by kernel_rfl) (fun _ _ _ h => h) (by rfl) ?_ (by assumption) ?_
      rotate_left
      · intro wz hSw
        try dsimp only at hSw
        go_simp
        try with_reducible rfl
      try simp only [Act.put, List.setIfInBounds_toArray, List.set_cons_zero, List.set_cons_succ]
      refine takeN2 (v := ?_) (by kernel_rfl) (by kernel_rfl) (by kernel_rfl) (fun _ _ _ h => h) (by rfl) ?_ (by assumption) ?_
      rotate_left
      · intro wz hSw
        try dsimp only at hSw
        go_simp
        try with_reducible rfl
      try simp only [Act.put, List.setIfInBounds_toArray, List.set_cons_zero, List.set_cons_succ]
      refine takeN3 (v := ?_) (by kernel_rfl) (by kernel_rfl) (by kernel_rfl) (fun _ _ _ h => h) (by rfl) ?_ (by assumption) ?_
      rotate_left
      · intro wz hSw
        try dsimp only at hSw
        go_simp
        try with_reducible rfl
      try simp only [Act.put, List.setIfInBounds_toArray, List.set_cons_zero, List.set_cons_succ]
      refine takeN4 (v := ?_) (by kernel_rfl) (by kernel_rfl) (by kernel_rfl) (fun _ _ _ h => h) (by rfl) ?_ (by assumption) ?_
      rotate_left
      · intro wz hSw
        try dsimp only at hSw
        go_simp
        try with_reducible rfl
      try simp only [Act.put, List.setIfInBounds_toArray, List.set_cons_zero, List.set_cons_succ]
      refine comeN5 (by kernel_rfl) (by rfl) (fun K hK => ?_)
      go_simp
      (go_at_call 164; refine (HR.out k x _ HX.out BW.out).mono ?_; rintro r w2 ⟨rfl, b2⟩)
      try go_wp2_with fail
      have x0_2 := cell_up (chain (below_drew _) b2) x0_0
      have x1_2 := cell_up (chain (below_drew _) b2) x1_0
      have x2_2 := cell_up (chain (below_drew _) b2) x2_0
      have x3_2 := cell_up (chain (below_drew _) b2) x3_0
      have x4_2 := cell_up (chain (below_drew _) b2) x4_0

      refine hK.out _ _ ?_ (fun hHeld => ?_)
      · exact ⟨x0_2, x1_2, x2_2, x3_2, x4_2⟩
      clear hK K
      try simp only [Act.put, List.setIfInBounds_toArray, List.set_cons_zero, List.set_cons_succ]
      clear x0_0 x1_0 x2_0 x3_0 x4_0
      refine takeN6 (v := ?_) (by kernel_rfl) (by kernel_rfl) (by kernel_rfl) (fun _ _ _ h => h) (by rfl) ?_ (by assumption) ?_
      rotate_left
      · intro wz hSw
        try dsimp only at hSw
        go_simp
        try with_reducible rfl
      try simp only [Act.put, List.setIfInBounds_toArray, List.set_cons_zero, List.set_cons_succ]
      refine wpAnyH_done (by kernel_rfl) ?_ _
      clear hHeld x0_2 x1_2 x2_2 x3_2 x4_2
      have B2 := Lib.hid (chain BW.out b2)
      clear b2
      by_cases e : chk k = 0
      · have e1 : (chk k != 0) = false := nbf e
        have HN := Lib.hid (ok_step Ha.out e)
        clear e
        go_wp2_with fail
        go_roundw
        case rel => exact ⟨k + 1, by omega, by congr 1, HN.out, B2.out⟩
        case measure => simp [intOf]; omega
      · have e1 : (chk k != 0) = true := nbt e
        have hv : Hid (listE lim l.length chk = chk k) := list_at tl Ha.out e c
        clear e tl
        go_wp2_with fail
        go_ret
        exact ⟨by rw [hv.out]; try rfl, B2.out⟩

set_option maxHeartbeats 3200000 in
set_option maxRecDepth 100000 in
theorem firstHlt_x (a : Option Addr) (cap lim p : Nat) (l : List Hlt) (chk : Nat → Int) (w : World) (hl : HAt w (.slice a l.length cap) l) (hs : Sz l.length)
    (hR : ∀ (i : Nat) (x : Hlt) (w1 : World), l[i]? = some x → Below w.heap.size w w1 → Calls Tryz.prog 165 #[.slice a i cap, vHlt x, .pointer (some ⟨p, 0, none⟩)] w1 fun r w' => r = .returned (.int .i64 (chk i)) ∧ Below w1.heap.size w1 w') :
    Calls Tryz.prog 133 #[.slice a l.length cap, .int .i64 (lim : Int), .func (.func 165) #[] #[.pointer (some ⟨p, 0, none⟩)]] w fun r w' => r = .returned (.int .i64 (listE lim l.length chk)) ∧ Below w.heap.size w w' := by
  have HL := Lib.hid hl
  have HR := Lib.hid hR
  have hcap := hl.len.2
  clear hl hR
  by_cases tl : lim < l.length
  · have u1 : (lim : Int) < (l.length : Int) := by omega
    have hv : Hid (listE lim l.length chk = 6) := list_long tl
    go_enter Tryz.func133, Tryz.ntmps133
    go_wp2_with fail
    go_ret
    exact ⟨by rw [hv.out]; try rfl, Below.refl _ _⟩
  have u1 : ¬ (lim : Int) < (l.length : Int) := by omega
  go_enter Tryz.func133, Tryz.ntmps133
  go_wp2_with fail
  go_loopw [16] (fun i wr => OkRel l.length chk w i wr) (fun i _ => l.length - (intOf i).toNat)
  case atStart => exact ⟨0, Nat.zero_le _, rfl, fun j hj => by omega, Below.refl _ _⟩
  case round =>
    obtain ⟨k, hk, rfl, hall, hbw⟩ := hrel
    have Ha := Lib.hid hall
    have HB := Lib.hid hbw
    have k0 : (0 : Int) ≤ (k : Int) := by omega
    clear hall hbw
    by_cases c : k < l.length
    case neg =>
      have c0 : ¬ (k : Int) < (l.length : Int) := by omega
      have hv : Hid (listE lim l.length chk = 0) := list_all tl (fun i hi => Ha.out i (by omega))
      clear tl
      go_wp2_with fail
      go_ret
      exact ⟨by rw [hv.out]; try rfl, HB.out⟩
    case pos =>
      have c0 : (k : Int) < (l.length : Int) := by omega
      have c1 : (k : Int) ≤ (cap : Int) := by omega
      have c2 : (l.length : Int) ≤ (cap : Int) := by omega
      obtain ⟨x, hx⟩ : ∃ x, l[k]? = some x := ⟨_, List.getElem?_eq_getElem c⟩
      obtain ⟨b, off, rfl, hb, hc⟩ := (HL.out.next HB.out).at hx
      have t0 : wr.cell? ⟨b, off + k * 3, none⟩ = some (.int .i64 x.o) := hc 0 _ rfl
      have t1 : wr.cell? ⟨b, off + k * 3 + 1, none⟩ = some (.int .i64 x.fr) := hc 1 _ rfl
      have t2 : wr.cell? ⟨b, off + k * 3 + 2, none⟩ = some (.int .i64 x.to) := hc 2 _ rfl
      have HX := Lib.hid hx
      clear hx hc
      have b0 := Below.new1 (w := wr) (.cells #[.int .i64 x.o, .int .i64 x.fr, .int .i64 x.to] 156)
      have BW := Lib.hid ((chain HB.out b0).drew)
      have x0_0 : (wr.alloc (.cells #[.int .i64 x.o, .int .i64 x.fr, .int .i64 x.to] 156)).cell? ⟨wr.heap.size, 0, none⟩ = some (.int .i64 x.o) := by rw [World.cell?_alloc_new]; rfl
      have x1_0 : (wr.alloc (.cells #[.int .i64 x.o, .int .i64 x.fr, .int .i64 x.to] 156)).cell? ⟨wr.heap.size, 1, none⟩ = some (.int .i64 x.fr) := by rw [World.cell?_alloc_new]; rfl
      have x2_0 : (wr.alloc (.cells #[.int .i64 x.o, .int .i64 x.fr, .int .i64 x.to] 156)).cell? ⟨wr.heap.size, 2, none⟩ = some (.int .i64 x.to) := by rw [World.cell?_alloc_new]; rfl
      clear b0
      go_wp2_with fail
      refine wp_region_held_drew (S := fun w' => w'.cell? ⟨wr.heap.size, 0, none⟩ = some (.int .i64 x.o) ∧ w'.cell? ⟨wr.heap.size, 1, none⟩ = some (.int .i64 x.fr) ∧ w'.cell? ⟨wr.heap.size, 2, none⟩ = some (.int .i64 x.to)) (by kernel_rfl) ?_ (fun hHeld => ?_)
      · exact ⟨x0_0, x1_0, x2_0⟩
      refine takeN0 (v := ?_) (by kernel_rfl) (by kernel_rfl) (by kernel_rfl) (fun _ _ _ h => h) (by rfl) ?_ (by assumption) ?_
      rotate_left
      · intro wz hSw
        try dsimp only at hSw
        go_simp
        try with_reducible rfl
      try simp only [Act.put, List.setIfInBounds_toArray, List.set_cons_zero, List.set_cons_succ]
      refine takeN1 (v := ?_) (by kernel_rfl) (by kernel_rfl) (by kernel_rfl) (fun _ _ _ h => h) (by rfl) ?_ (by assumption) ?_
      rotate_left
      · intro wz hSw
        try dsimp only at hSw
        go_simp
        try with_reducible rfl
      try simp only [Act.put, List.setIfInBounds_toArray, List.set_cons_zero, List.set_cons_succ]
      refine takeN2 (v := ?_) (by kernel_rfl) (by kernel_rfl) (by kernel_rfl) (fun _ _ _ h => h) (by rfl) ?_ (by assumption) ?_
      rotate_left
      · intro wz hSw
        try dsimp only at hSw
        go_simp
        try with_reducible rfl
      try simp only [Act.put, List.setIfInBounds_toArray, List.set_cons_zero, List.set_cons_succ]
      refine takeN3 (v := ?_) (by kernel_rfl) (by kernel_rfl) (by kernel_rfl) (fun _ _ _ h => h) (by rfl) ?_ (by assumption) ?_
      rotate_left
      · intro wz hSw
        try dsimp only at hSw
        go_simp
        try with_reducible rfl
      try simp only [Act.put, List.setIfInBounds_toArray, List.set_cons_zero, List.set_cons_succ]
      refine takeN4 (v := ?_) (by kernel_rfl) (by kernel_rfl) (by kernel_rfl) (fun _ _ _ h => h) (by rfl) ?_ (by assumption) ?_
      rotate_left
      · intro wz hSw
        try dsimp only at hSw
        go_simp
        try with_reducible rfl
      try simp only [Act.put, List.setIfInBounds_toArray, List.set_cons_zero, List.set_cons_succ]
      refine comeN5 (by kernel_rfl) (by rfl) (fun K hK => ?_)
      go_simp
      (go_at_call 165; refine (HR.out k x _ HX.out BW.out).mono ?_; rintro r w2 ⟨rfl, b2⟩)
      try go_wp2_with fail
      have x0_2 := cell_up (chain (below_drew _) b2) x0_0
      have x1_2 := cell_up (chain (below_drew _) b2) x1_0
      have x2_2 := cell_up (chain (below_drew _) b2) x2_0

      refine hK.out _ _ ?_ (fun hHeld => ?_)
      · exact ⟨x0_2, x1_2, x2_2⟩
      clear hK K
      try simp only [Act.put, List.setIfInBounds_toArray, List.set_cons_zero, List.set_cons_succ]
      clear x0_0 x1_0 x2_0
      refine takeN6 (v := ?_) (by kernel_rfl) (by kernel_rfl) (by kernel_rfl) (fun _ _ _ h => h) (by rfl) ?_ (by assumption) ?_
      rotate_left
      · intro wz hSw
        try dsimp only at hSw
        go_simp
        try with_reducible rfl
      try simp only [Act.put, List.setIfInBounds_toArray, List.set_cons_zero, List.set_cons_succ]
      refine wpAnyH_done (by kernel_rfl) ?_ _
      clear hHeld x0_2 x1_2 x2_2
      have B2 := Lib.hid (chain BW.out b2)
      clear b2
      by_cases e : chk k = 0
      · have e1 : (chk k != 0) = false := nbf e
        have HN := Lib.hid (ok_step Ha.out e)
        clear e
        go_wp2_with fail
        go_roundw
        case rel => exact ⟨k + 1, by omega, by congr 1, HN.out, B2.out⟩
        case measure => simp [intOf]; omega
      · have e1 : (chk k != 0) = true := nbt e
        have hv : Hid (listE lim l.length chk = chk k) := list_at tl Ha.out e c
        clear e tl
        go_wp2_with fail
        go_ret
        exact ⟨by rw [hv.out]; try rfl, B2.out⟩

end Go.Proofs.YtcjakgpmompaiaaGreatDoor
