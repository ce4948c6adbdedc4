/-
  The program: the makers of checks, the eight lists, Check.
-/
import Derived.Test.YtcjakgpmompaiaaGreatDoorProF
namespace Go.Proofs.YtcjakgpmompaiaaGreatDoor
open Go.RowKit Rl

theorem named_at {T : Type} {nm : T → B} {p : T → Bool} {l : List T} {i : Nat} {x : T} (hx : l[i]? = some x) : namedE (l.map nm) (at_ l p) i = nmE ((l.take i).map nm) (nm x) (p x) := by
  rw [named_eq (map_at hx), List.map_take]
  unfold at_
  rw [hx]
theorem named_at_s {l : List B} {i : Nat} {x : B} (hx : l[i]? = some x) : namedE l (fun _ => true) i = nmE (l.take i) x true := named_eq hx
theorem plain_at {T : Type} {p : T → Bool} {l : List T} {i : Nat} {x : T} (hx : l[i]? = some x) : plainE (at_ l p) i = if p x = true then 0 else 1 := by
  unfold plainE at_
  rw [hx]
theorem us_at {R : Rlm} {i : Nat} {u : Usn} (hx : R.usances[i]? = some u) : usE R i = usEv (R.usances.take i) u (usB R.cities.length u) := by
  unfold usE usEv at_
  rw [hx]
theorem sz_take {T : Type} {l : List T} {i : Nat} (h : Sz l.length) : Sz (l.take i).length := by rw [List.length_take]; unfold Sz at *; omega

theorem mkB_x (w : World) :
    Calls Tryz.prog 98 #[.func (.func 95) #[] #[], .func (.func 96) #[] #[]] w fun r w' => ∃ p q, r = .returned (.func (.func 155) #[] #[.pointer (some ⟨p, 0, none⟩), .pointer (some ⟨q, 0, none⟩)]) ∧
      w'.cell? ⟨p, 0, none⟩ = some (.func (.func 95) #[] #[]) ∧ w'.cell? ⟨q, 0, none⟩ = some (.func (.func 96) #[] #[]) ∧ Below w.heap.size w w' := by
  go_enter Tryz.func98, Tryz.ntmps98
  go_wp2_with fail
  go_ret
  refine ⟨_, _, rfl, ?_, ?_, chain (Below.new1 _) (Below.new1 _)⟩
  · refine cell_up (Below.new1 _) ?_
    rw [World.cell?_alloc_new]
    rfl
  · have e : ∀ (W : World) (o : Obj), (W.alloc o).heap.size = W.heap.size + 1 := fun W o => by simp
    rw [← e]
    rw [World.cell?_alloc_new]
    rfl

theorem mkCty_x (g : Nat) (w : World) :
    Calls Tryz.prog 107 #[.func (.func 108) #[] #[], .func (.func 99) #[] #[.pointer (some ⟨g, 0, none⟩)]] w fun r w' => ∃ p q, r = .returned (.func (.func 158) #[] #[.pointer (some ⟨p, 0, none⟩), .pointer (some ⟨q, 0, none⟩)]) ∧
      w'.cell? ⟨p, 0, none⟩ = some (.func (.func 108) #[] #[]) ∧ w'.cell? ⟨q, 0, none⟩ = some (.func (.func 99) #[] #[.pointer (some ⟨g, 0, none⟩)]) ∧ Below w.heap.size w w' := by
  go_enter Tryz.func107, Tryz.ntmps107
  go_wp2_with fail
  go_ret
  refine ⟨_, _, rfl, ?_, ?_, chain (Below.new1 _) (Below.new1 _)⟩
  · refine cell_up (Below.new1 _) ?_
    rw [World.cell?_alloc_new]
    rfl
  · have e : ∀ (W : World) (o : Obj), (W.alloc o).heap.size = W.heap.size + 1 := fun W o => by simp
    rw [← e]
    rw [World.cell?_alloc_new]
    rfl

theorem mkFrm_x (g : Nat) (w : World) :
    Calls Tryz.prog 117 #[.func (.func 118) #[] #[], .func (.func 113) #[] #[.pointer (some ⟨g, 0, none⟩)]] w fun r w' => ∃ p q, r = .returned (.func (.func 160) #[] #[.pointer (some ⟨p, 0, none⟩), .pointer (some ⟨q, 0, none⟩)]) ∧
      w'.cell? ⟨p, 0, none⟩ = some (.func (.func 118) #[] #[]) ∧ w'.cell? ⟨q, 0, none⟩ = some (.func (.func 113) #[] #[.pointer (some ⟨g, 0, none⟩)]) ∧ Below w.heap.size w w' := by
  go_enter Tryz.func117, Tryz.ntmps117
  go_wp2_with fail
  go_ret
  refine ⟨_, _, rfl, ?_, ?_, chain (Below.new1 _) (Below.new1 _)⟩
  · refine cell_up (Below.new1 _) ?_
    rw [World.cell?_alloc_new]
    rfl
  · have e : ∀ (W : World) (o : Obj), (W.alloc o).heap.size = W.heap.size + 1 := fun W o => by simp
    rw [← e]
    rw [World.cell?_alloc_new]
    rfl

theorem mkOdr_x (w : World) :
    Calls Tryz.prog 123 #[.func (.func 119) #[] #[], .func (.func 120) #[] #[]] w fun r w' => ∃ p q, r = .returned (.func (.func 161) #[] #[.pointer (some ⟨p, 0, none⟩), .pointer (some ⟨q, 0, none⟩)]) ∧
      w'.cell? ⟨p, 0, none⟩ = some (.func (.func 119) #[] #[]) ∧ w'.cell? ⟨q, 0, none⟩ = some (.func (.func 120) #[] #[]) ∧ Below w.heap.size w w' := by
  go_enter Tryz.func123, Tryz.ntmps123
  go_wp2_with fail
  go_ret
  refine ⟨_, _, rfl, ?_, ?_, chain (Below.new1 _) (Below.new1 _)⟩
  · refine cell_up (Below.new1 _) ?_
    rw [World.cell?_alloc_new]
    rfl
  · have e : ∀ (W : World) (o : Obj), (W.alloc o).heap.size = W.heap.size + 1 := fun W o => by simp
    rw [← e]
    rw [World.cell?_alloc_new]
    rfl

theorem mkInt_x (w : World) :
    Calls Tryz.prog 112 #[.func (.func 109) #[] #[]] w fun r w' => ∃ p, r = .returned (.func (.func 159) #[] #[.pointer (some ⟨p, 0, none⟩)]) ∧
      w'.cell? ⟨p, 0, none⟩ = some (.func (.func 109) #[] #[]) ∧ Below w.heap.size w w' := by
  go_enter Tryz.func112, Tryz.ntmps112
  go_wp2_with fail
  go_ret
  refine ⟨_, rfl, ?_, Below.new1 _⟩
  rw [World.cell?_alloc_new]
  rfl

theorem mkRte_x (g : Nat) (w : World) :
    Calls Tryz.prog 131 #[.func (.func 129) #[] #[.pointer (some ⟨g, 0, none⟩)]] w fun r w' => ∃ p, r = .returned (.func (.func 164) #[] #[.pointer (some ⟨p, 0, none⟩)]) ∧
      w'.cell? ⟨p, 0, none⟩ = some (.func (.func 129) #[] #[.pointer (some ⟨g, 0, none⟩)]) ∧ Below w.heap.size w w' := by
  go_enter Tryz.func131, Tryz.ntmps131
  go_wp2_with fail
  go_ret
  refine ⟨_, rfl, ?_, Below.new1 _⟩
  rw [World.cell?_alloc_new]
  rfl

theorem mkHlt_x (g : Nat) (w : World) :
    Calls Tryz.prog 134 #[.func (.func 132) #[] #[.pointer (some ⟨g, 0, none⟩)]] w fun r w' => ∃ p, r = .returned (.func (.func 165) #[] #[.pointer (some ⟨p, 0, none⟩)]) ∧
      w'.cell? ⟨p, 0, none⟩ = some (.func (.func 132) #[] #[.pointer (some ⟨g, 0, none⟩)]) ∧ Below w.heap.size w w' := by
  go_enter Tryz.func134, Tryz.ntmps134
  go_wp2_with fail
  go_ret
  refine ⟨_, rfl, ?_, Below.new1 _⟩
  rw [World.cell?_alloc_new]
  rfl

/-- a realm in memory, its lists at those places -/
abbrev RS (w : World) (a0 a1 a2 a3 a4 a5 a6 a7 : Option Addr) (c0 c1 c2 c3 c4 c5 c6 c7 : Nat) (R : Rlm) : Prop := RAt w (.slice a0 R.cur.length c0) (.slice a1 R.cities.length c1) (.slice a2 R.groups.length c2) (.slice a3 R.firms.length c3) (.slice a4 R.orders.length c4) (.slice a5 R.usances.length c5) (.slice a6 R.rates.length c6) (.slice a7 R.halts.length c7) R
/-- its box -/
structure RB (w : World) (g : Nat) (a0 a1 a2 a3 a4 a5 a6 a7 : Option Addr) (c0 c1 c2 c3 c4 c5 c6 c7 : Nat) (R : Rlm) : Prop where
  b0 : w.cell? ⟨g, 0, none⟩ = some (.slice a0 R.cur.length c0)
  b1 : w.cell? ⟨g, 1, none⟩ = some (.slice a1 R.cities.length c1)
  b2 : w.cell? ⟨g, 2, none⟩ = some (.slice a2 R.groups.length c2)
  b3 : w.cell? ⟨g, 3, none⟩ = some (.slice a3 R.firms.length c3)
  b4 : w.cell? ⟨g, 4, none⟩ = some (.slice a4 R.orders.length c4)
  b5 : w.cell? ⟨g, 5, none⟩ = some (.slice a5 R.usances.length c5)
  b6 : w.cell? ⟨g, 6, none⟩ = some (.slice a6 R.rates.length c6)
  b7 : w.cell? ⟨g, 7, none⟩ = some (.slice a7 R.halts.length c7)
theorem RB.next {w w' : World} {g : Nat} {a0 a1 a2 a3 a4 a5 a6 a7 : Option Addr} {c0 c1 c2 c3 c4 c5 c6 c7 : Nat} {R : Rlm} (h : RB w g a0 a1 a2 a3 a4 a5 a6 a7 c0 c1 c2 c3 c4 c5 c6 c7 R) (hb : Below w.heap.size w w') : RB w' g a0 a1 a2 a3 a4 a5 a6 a7 c0 c1 c2 c3 c4 c5 c6 c7 R :=
  ⟨cell_up hb h.b0, cell_up hb h.b1, cell_up hb h.b2, cell_up hb h.b3, cell_up hb h.b4, cell_up hb h.b5, cell_up hb h.b6, cell_up hb h.b7⟩
theorem RB.new (w : World) (a0 a1 a2 a3 a4 a5 a6 a7 : Option Addr) (c0 c1 c2 c3 c4 c5 c6 c7 : Nat) (R : Rlm) : RB (w.alloc (.cells #[.slice a0 R.cur.length c0, .slice a1 R.cities.length c1, .slice a2 R.groups.length c2, .slice a3 R.firms.length c3, .slice a4 R.orders.length c4, .slice a5 R.usances.length c5, .slice a6 R.rates.length c6, .slice a7 R.halts.length c7] 31)) w.heap.size a0 a1 a2 a3 a4 a5 a6 a7 c0 c1 c2 c3 c4 c5 c6 c7 R := by
  constructor <;> rw [World.cell?_alloc_new] <;> rfl
abbrev RCells (a0 a1 a2 a3 a4 a5 a6 a7 : Option Addr) (c0 c1 c2 c3 c4 c5 c6 c7 : Nat) (R : Rlm) : Obj := (.cells #[.slice a0 R.cur.length c0, .slice a1 R.cities.length c1, .slice a2 R.groups.length c2, .slice a3 R.firms.length c3, .slice a4 R.orders.length c4, .slice a5 R.usances.length c5, .slice a6 R.rates.length c6, .slice a7 R.halts.length c7] 31)

set_option maxHeartbeats 3200000 in
set_option maxRecDepth 100000 in
theorem currencies_x {a0 a1 a2 a3 a4 a5 a6 a7 : Option Addr} {c0 c1 c2 c3 c4 c5 c6 c7 : Nat} {R : Rlm} (w : World) (hr : RS w a0 a1 a2 a3 a4 a5 a6 a7 c0 c1 c2 c3 c4 c5 c6 c7 R) (hF : Fit R) :
    Calls Tryz.prog 61 #[.agg #[.slice a0 R.cur.length c0, .slice a1 R.cities.length c1, .slice a2 R.groups.length c2, .slice a3 R.firms.length c3, .slice a4 R.orders.length c4, .slice a5 R.usances.length c5, .slice a6 R.rates.length c6, .slice a7 R.halts.length c7]] w fun r w' => r = .returned (.int .i64 (curE R)) ∧ Below w.heap.size w w' := by
  have HR := Lib.hid hr
  have RB0 := Lib.hid (RB.new w (a0 := a0) (a1 := a1) (a2 := a2) (a3 := a3) (a4 := a4) (a5 := a5) (a6 := a6) (a7 := a7) (c0 := c0) (c1 := c1) (c2 := c2) (c3 := c3) (c4 := c4) (c5 := c5) (c6 := c6) (c7 := c7) (R := R))
  have B0 := Lib.hid (Below.new1 (w := w) (.cells #[.slice a0 R.cur.length c0, .slice a1 R.cities.length c1, .slice a2 R.groups.length c2, .slice a3 R.firms.length c3, .slice a4 R.orders.length c4, .slice a5 R.usances.length c5, .slice a6 R.rates.length c6, .slice a7 R.halts.length c7] 31))
  have y0 := RB0.out.b0
  clear hr
  go_enter Tryz.func61, Tryz.ntmps61
  go_wp2_with fail
  refine wp_region_held_drew (S := fun w' => w'.cell? ⟨w.heap.size, 0, none⟩ = some (.slice a0 R.cur.length c0)) (by kernel_rfl) ?_ (fun hHeld => ?_)
  · exact y0
  refine takeN0 (v := ?_) (by kernel_rfl) (by kernel_rfl) (by kernel_rfl) (fun _ _ _ h => h) (by rfl) ?_ (by assumption) ?_
  rotate_left
  · intro wz hSw
    try dsimp only at hSw
    go_simp
    try with_reducible rfl
  try simp only [Act.put, List.setIfInBounds_toArray, List.set_cons_zero, List.set_cons_succ]
  refine takeN1 (v := ?_) (by kernel_rfl) (by kernel_rfl) (by kernel_rfl) (fun _ _ _ h => h) (by rfl) ?_ (by assumption) ?_
  rotate_left
  · intro wz hSw
    try dsimp only at hSw
    go_simp
    try with_reducible rfl
  try simp only [Act.put, List.setIfInBounds_toArray, List.set_cons_zero, List.set_cons_succ]
  refine takeN2 (v := ?_) (by kernel_rfl) (by kernel_rfl) (by kernel_rfl) (fun _ _ _ h => h) (by rfl) ?_ (by assumption) ?_
  rotate_left
  · intro wz hSw
    try dsimp only at hSw
    go_simp
    try with_reducible rfl
  try simp only [Act.put, List.setIfInBounds_toArray, List.set_cons_zero, List.set_cons_succ]
  refine takeN3 (v := ?_) (by kernel_rfl) (by kernel_rfl) (by kernel_rfl) (fun _ _ _ h => h) (by rfl) ?_ (by assumption) ?_
  rotate_left
  · intro wz hSw
    try dsimp only at hSw
    go_simp
    try with_reducible rfl
  try simp only [Act.put, List.setIfInBounds_toArray, List.set_cons_zero, List.set_cons_succ]
  refine comeN4 (by kernel_rfl) (by rfl) (fun K hK => ?_)
  go_simp
  (go_at_call 98; refine (mkB_x _).mono ?_; rintro r w3 ⟨p, q, rfl, hp, hq, b3⟩)
  try go_wp2_with fail
  have HP := Lib.hid hp
  have HQ := Lib.hid hq
  have RB3 := Lib.hid (RB0.out.next (chain (below_drew _) b3))
  have B3 := Lib.hid (chain B0.out.drew b3)
  clear b3 hp hq
  have y3 := RB3.out.b0
  refine hK.out _ _ ?_ (fun hHeld => ?_)
  · exact y3
  clear hK K
  try simp only [Act.put, List.setIfInBounds_toArray, List.set_cons_zero, List.set_cons_succ]
  refine comeN5 (by kernel_rfl) (by rfl) (fun K hK => ?_)
  go_simp
  (go_at_call 97; refine ((firstStr_x a0 c0 8 p q R.cur (namedE R.cur (fun _ => true)) _ (HR.out.next B3.out).cur hF.cur (by
    intro i x w1 hx hb
    have hh := namedB_x a0 i c0 p q (R.cur.take i) x (true) w1 (cell_up hb HP.out) (cell_up hb HQ.out) (((HR.out.next (chain B3.out hb)).cur).take (Nat.le_of_lt (List.getElem?_eq_some_iff.1 hx).1)) (sz_take hF.cur) (by
      intro w2 hb2
      have RB4 := RB3.out.next (chain hb hb2)
      have HR4 := HR.out.next (chain B3.out (chain hb hb2))
      exact rightB_x _ _)
    rw [named_at_s hx]
    exact hh)).mono ?_); rintro r w4 ⟨rfl, b4⟩)
  try go_wp2_with fail
  have y4 := cell_up b4 y3
  have B4 := Lib.hid (chain B3.out b4)
  clear b4
  refine hK.out _ _ ?_ (fun hHeld => ?_)
  · exact y4
  clear hK K
  try simp only [Act.put, List.setIfInBounds_toArray, List.set_cons_zero, List.set_cons_succ]
  refine takeN6 (v := ?_) (by kernel_rfl) (by kernel_rfl) (by kernel_rfl) (fun _ _ _ h => h) (by rfl) ?_ (by assumption) ?_
  rotate_left
  · intro wz hSw
    try dsimp only at hSw
    go_simp
    try with_reducible rfl
  try simp only [Act.put, List.setIfInBounds_toArray, List.set_cons_zero, List.set_cons_succ]
  refine wpAnyH_done (by kernel_rfl) ?_ _
  clear hHeld y0 y3 y4
  go_wp2_with fail
  go_ret
  exact ⟨rfl, B4.out⟩

set_option maxHeartbeats 3200000 in
set_option maxRecDepth 100000 in
theorem cities_x {a0 a1 a2 a3 a4 a5 a6 a7 : Option Addr} {c0 c1 c2 c3 c4 c5 c6 c7 : Nat} {R : Rlm} (w : World) (hr : RS w a0 a1 a2 a3 a4 a5 a6 a7 c0 c1 c2 c3 c4 c5 c6 c7 R) (hF : Fit R) :
    Calls Tryz.prog 62 #[.agg #[.slice a0 R.cur.length c0, .slice a1 R.cities.length c1, .slice a2 R.groups.length c2, .slice a3 R.firms.length c3, .slice a4 R.orders.length c4, .slice a5 R.usances.length c5, .slice a6 R.rates.length c6, .slice a7 R.halts.length c7]] w fun r w' => r = .returned (.int .i64 (cityE R)) ∧ Below w.heap.size w w' := by
  have HR := Lib.hid hr
  have RB0 := Lib.hid (RB.new w (a0 := a0) (a1 := a1) (a2 := a2) (a3 := a3) (a4 := a4) (a5 := a5) (a6 := a6) (a7 := a7) (c0 := c0) (c1 := c1) (c2 := c2) (c3 := c3) (c4 := c4) (c5 := c5) (c6 := c6) (c7 := c7) (R := R))
  have B0 := Lib.hid (Below.new1 (w := w) (.cells #[.slice a0 R.cur.length c0, .slice a1 R.cities.length c1, .slice a2 R.groups.length c2, .slice a3 R.firms.length c3, .slice a4 R.orders.length c4, .slice a5 R.usances.length c5, .slice a6 R.rates.length c6, .slice a7 R.halts.length c7] 31))
  have y0 := RB0.out.b1
  clear hr
  go_enter Tryz.func62, Tryz.ntmps62
  go_wp2_with fail
  refine wp_region_held_drew (S := fun w' => w'.cell? ⟨w.heap.size, 1, none⟩ = some (.slice a1 R.cities.length c1)) (by kernel_rfl) ?_ (fun hHeld => ?_)
  · exact y0
  refine takeN0 (v := ?_) (by kernel_rfl) (by kernel_rfl) (by kernel_rfl) (fun _ _ _ h => h) (by rfl) ?_ (by assumption) ?_
  rotate_left
  · intro wz hSw
    try dsimp only at hSw
    go_simp
    try with_reducible rfl
  try simp only [Act.put, List.setIfInBounds_toArray, List.set_cons_zero, List.set_cons_succ]
  refine takeN1 (v := ?_) (by kernel_rfl) (by kernel_rfl) (by kernel_rfl) (fun _ _ _ h => h) (by rfl) ?_ (by assumption) ?_
  rotate_left
  · intro wz hSw
    try dsimp only at hSw
    go_simp
    try with_reducible rfl
  try simp only [Act.put, List.setIfInBounds_toArray, List.set_cons_zero, List.set_cons_succ]
  refine takeN2 (v := ?_) (by kernel_rfl) (by kernel_rfl) (by kernel_rfl) (fun _ _ _ h => h) (by rfl) ?_ (by assumption) ?_
  rotate_left
  · intro wz hSw
    try dsimp only at hSw
    go_simp
    try with_reducible rfl
  try simp only [Act.put, List.setIfInBounds_toArray, List.set_cons_zero, List.set_cons_succ]
  refine comeN3 (by kernel_rfl) (by rfl) (fun K hK => ?_)
  go_simp
  (go_at_call 107; refine (mkCty_x w.heap.size _).mono ?_; rintro r w3 ⟨p, q, rfl, hp, hq, b3⟩)
  try go_wp2_with fail
  have HP := Lib.hid hp
  have HQ := Lib.hid hq
  have RB3 := Lib.hid (RB0.out.next (chain (below_drew _) b3))
  have B3 := Lib.hid (chain B0.out.drew b3)
  clear b3 hp hq
  have y3 := RB3.out.b1
  refine hK.out _ _ ?_ (fun hHeld => ?_)
  · exact y3
  clear hK K
  try simp only [Act.put, List.setIfInBounds_toArray, List.set_cons_zero, List.set_cons_succ]
  refine comeN4 (by kernel_rfl) (by rfl) (fun K hK => ?_)
  go_simp
  (go_at_call 106; refine ((firstCty_x a1 c1 40 p q R.cities (namedE (R.cities.map Cty.nm) (at_ R.cities (cityB R.orders.length R.cur.length))) _ (HR.out.next B3.out).cities hF.cities (by
    intro i x w1 hx hb
    have hh := namedCty_x a1 i c1 p q w.heap.size (R.cities.take i) x (cityB R.orders.length R.cur.length x) w1 (cell_up hb HP.out) (cell_up hb HQ.out) (((HR.out.next (chain B3.out hb)).cities).take (Nat.le_of_lt (List.getElem?_eq_some_iff.1 hx).1)) (sz_take hF.cities) (by
      intro w2 hb2
      have RB4 := RB3.out.next (chain hb hb2)
      have HR4 := HR.out.next (chain B3.out (chain hb hb2))
      obtain ⟨f1, f2, f3, f4⟩ := hF.inC x (List.mem_of_getElem? hx)
      exact rightCty_x _ _ _ _ _ _ _ x _ RB4.b4 hF.orders RB4.b0 hF.cur (HR4.inC x (List.mem_of_getElem? hx)) f1 f2 f3 f4)
    rw [named_at hx]
    exact hh)).mono ?_); rintro r w4 ⟨rfl, b4⟩)
  try go_wp2_with fail
  have y4 := cell_up b4 y3
  have B4 := Lib.hid (chain B3.out b4)
  clear b4
  refine hK.out _ _ ?_ (fun hHeld => ?_)
  · exact y4
  clear hK K
  try simp only [Act.put, List.setIfInBounds_toArray, List.set_cons_zero, List.set_cons_succ]
  refine takeN5 (v := ?_) (by kernel_rfl) (by kernel_rfl) (by kernel_rfl) (fun _ _ _ h => h) (by rfl) ?_ (by assumption) ?_
  rotate_left
  · intro wz hSw
    try dsimp only at hSw
    go_simp
    try with_reducible rfl
  try simp only [Act.put, List.setIfInBounds_toArray, List.set_cons_zero, List.set_cons_succ]
  refine wpAnyH_done (by kernel_rfl) ?_ _
  clear hHeld y0 y3 y4
  go_wp2_with fail
  go_ret
  exact ⟨rfl, B4.out⟩

set_option maxHeartbeats 3200000 in
set_option maxRecDepth 100000 in
theorem firms_x {a0 a1 a2 a3 a4 a5 a6 a7 : Option Addr} {c0 c1 c2 c3 c4 c5 c6 c7 : Nat} {R : Rlm} (w : World) (hr : RS w a0 a1 a2 a3 a4 a5 a6 a7 c0 c1 c2 c3 c4 c5 c6 c7 R) (hF : Fit R) :
    Calls Tryz.prog 64 #[.agg #[.slice a0 R.cur.length c0, .slice a1 R.cities.length c1, .slice a2 R.groups.length c2, .slice a3 R.firms.length c3, .slice a4 R.orders.length c4, .slice a5 R.usances.length c5, .slice a6 R.rates.length c6, .slice a7 R.halts.length c7]] w fun r w' => r = .returned (.int .i64 (firmE R)) ∧ Below w.heap.size w w' := by
  have HR := Lib.hid hr
  have RB0 := Lib.hid (RB.new w (a0 := a0) (a1 := a1) (a2 := a2) (a3 := a3) (a4 := a4) (a5 := a5) (a6 := a6) (a7 := a7) (c0 := c0) (c1 := c1) (c2 := c2) (c3 := c3) (c4 := c4) (c5 := c5) (c6 := c6) (c7 := c7) (R := R))
  have B0 := Lib.hid (Below.new1 (w := w) (.cells #[.slice a0 R.cur.length c0, .slice a1 R.cities.length c1, .slice a2 R.groups.length c2, .slice a3 R.firms.length c3, .slice a4 R.orders.length c4, .slice a5 R.usances.length c5, .slice a6 R.rates.length c6, .slice a7 R.halts.length c7] 31))
  have y0 := RB0.out.b3
  clear hr
  go_enter Tryz.func64, Tryz.ntmps64
  go_wp2_with fail
  refine wp_region_held_drew (S := fun w' => w'.cell? ⟨w.heap.size, 3, none⟩ = some (.slice a3 R.firms.length c3)) (by kernel_rfl) ?_ (fun hHeld => ?_)
  · exact y0
  refine takeN0 (v := ?_) (by kernel_rfl) (by kernel_rfl) (by kernel_rfl) (fun _ _ _ h => h) (by rfl) ?_ (by assumption) ?_
  rotate_left
  · intro wz hSw
    try dsimp only at hSw
    go_simp
    try with_reducible rfl
  try simp only [Act.put, List.setIfInBounds_toArray, List.set_cons_zero, List.set_cons_succ]
  refine takeN1 (v := ?_) (by kernel_rfl) (by kernel_rfl) (by kernel_rfl) (fun _ _ _ h => h) (by rfl) ?_ (by assumption) ?_
  rotate_left
  · intro wz hSw
    try dsimp only at hSw
    go_simp
    try with_reducible rfl
  try simp only [Act.put, List.setIfInBounds_toArray, List.set_cons_zero, List.set_cons_succ]
  refine takeN2 (v := ?_) (by kernel_rfl) (by kernel_rfl) (by kernel_rfl) (fun _ _ _ h => h) (by rfl) ?_ (by assumption) ?_
  rotate_left
  · intro wz hSw
    try dsimp only at hSw
    go_simp
    try with_reducible rfl
  try simp only [Act.put, List.setIfInBounds_toArray, List.set_cons_zero, List.set_cons_succ]
  refine comeN3 (by kernel_rfl) (by rfl) (fun K hK => ?_)
  go_simp
  (go_at_call 117; refine (mkFrm_x w.heap.size _).mono ?_; rintro r w3 ⟨p, q, rfl, hp, hq, b3⟩)
  try go_wp2_with fail
  have HP := Lib.hid hp
  have HQ := Lib.hid hq
  have RB3 := Lib.hid (RB0.out.next (chain (below_drew _) b3))
  have B3 := Lib.hid (chain B0.out.drew b3)
  clear b3 hp hq
  have y3 := RB3.out.b3
  refine hK.out _ _ ?_ (fun hHeld => ?_)
  · exact y3
  clear hK K
  try simp only [Act.put, List.setIfInBounds_toArray, List.set_cons_zero, List.set_cons_succ]
  refine comeN4 (by kernel_rfl) (by rfl) (fun K hK => ?_)
  go_simp
  (go_at_call 116; refine ((firstFrm_x a3 c3 200 p q R.firms (namedE (R.firms.map Frm.nm) (at_ R.firms (firmB R.cities.length R.groups.length))) _ (HR.out.next B3.out).firms hF.firms (by
    intro i x w1 hx hb
    have hh := namedFrm_x a3 i c3 p q w.heap.size (R.firms.take i) x (firmB R.cities.length R.groups.length x) w1 (cell_up hb HP.out) (cell_up hb HQ.out) (((HR.out.next (chain B3.out hb)).firms).take (Nat.le_of_lt (List.getElem?_eq_some_iff.1 hx).1)) (sz_take hF.firms) (by
      intro w2 hb2
      have RB4 := RB3.out.next (chain hb hb2)
      have HR4 := HR.out.next (chain B3.out (chain hb hb2))
      exact rightFrm_x _ _ _ _ _ _ _ x _ RB4.b1 hF.cities RB4.b2 hF.groups)
    rw [named_at hx]
    exact hh)).mono ?_); rintro r w4 ⟨rfl, b4⟩)
  try go_wp2_with fail
  have y4 := cell_up b4 y3
  have B4 := Lib.hid (chain B3.out b4)
  clear b4
  refine hK.out _ _ ?_ (fun hHeld => ?_)
  · exact y4
  clear hK K
  try simp only [Act.put, List.setIfInBounds_toArray, List.set_cons_zero, List.set_cons_succ]
  refine takeN5 (v := ?_) (by kernel_rfl) (by kernel_rfl) (by kernel_rfl) (fun _ _ _ h => h) (by rfl) ?_ (by assumption) ?_
  rotate_left
  · intro wz hSw
    try dsimp only at hSw
    go_simp
    try with_reducible rfl
  try simp only [Act.put, List.setIfInBounds_toArray, List.set_cons_zero, List.set_cons_succ]
  refine wpAnyH_done (by kernel_rfl) ?_ _
  clear hHeld y0 y3 y4
  go_wp2_with fail
  go_ret
  exact ⟨rfl, B4.out⟩

set_option maxHeartbeats 3200000 in
set_option maxRecDepth 100000 in
theorem orders_x {a0 a1 a2 a3 a4 a5 a6 a7 : Option Addr} {c0 c1 c2 c3 c4 c5 c6 c7 : Nat} {R : Rlm} (w : World) (hr : RS w a0 a1 a2 a3 a4 a5 a6 a7 c0 c1 c2 c3 c4 c5 c6 c7 R) (hF : Fit R) :
    Calls Tryz.prog 65 #[.agg #[.slice a0 R.cur.length c0, .slice a1 R.cities.length c1, .slice a2 R.groups.length c2, .slice a3 R.firms.length c3, .slice a4 R.orders.length c4, .slice a5 R.usances.length c5, .slice a6 R.rates.length c6, .slice a7 R.halts.length c7]] w fun r w' => r = .returned (.int .i64 (orderE R)) ∧ Below w.heap.size w w' := by
  have HR := Lib.hid hr
  have RB0 := Lib.hid (RB.new w (a0 := a0) (a1 := a1) (a2 := a2) (a3 := a3) (a4 := a4) (a5 := a5) (a6 := a6) (a7 := a7) (c0 := c0) (c1 := c1) (c2 := c2) (c3 := c3) (c4 := c4) (c5 := c5) (c6 := c6) (c7 := c7) (R := R))
  have B0 := Lib.hid (Below.new1 (w := w) (.cells #[.slice a0 R.cur.length c0, .slice a1 R.cities.length c1, .slice a2 R.groups.length c2, .slice a3 R.firms.length c3, .slice a4 R.orders.length c4, .slice a5 R.usances.length c5, .slice a6 R.rates.length c6, .slice a7 R.halts.length c7] 31))
  have y0 := RB0.out.b4
  clear hr
  go_enter Tryz.func65, Tryz.ntmps65
  go_wp2_with fail
  refine wp_region_held_drew (S := fun w' => w'.cell? ⟨w.heap.size, 4, none⟩ = some (.slice a4 R.orders.length c4)) (by kernel_rfl) ?_ (fun hHeld => ?_)
  · exact y0
  refine takeN0 (v := ?_) (by kernel_rfl) (by kernel_rfl) (by kernel_rfl) (fun _ _ _ h => h) (by rfl) ?_ (by assumption) ?_
  rotate_left
  · intro wz hSw
    try dsimp only at hSw
    go_simp
    try with_reducible rfl
  try simp only [Act.put, List.setIfInBounds_toArray, List.set_cons_zero, List.set_cons_succ]
  refine takeN1 (v := ?_) (by kernel_rfl) (by kernel_rfl) (by kernel_rfl) (fun _ _ _ h => h) (by rfl) ?_ (by assumption) ?_
  rotate_left
  · intro wz hSw
    try dsimp only at hSw
    go_simp
    try with_reducible rfl
  try simp only [Act.put, List.setIfInBounds_toArray, List.set_cons_zero, List.set_cons_succ]
  refine takeN2 (v := ?_) (by kernel_rfl) (by kernel_rfl) (by kernel_rfl) (fun _ _ _ h => h) (by rfl) ?_ (by assumption) ?_
  rotate_left
  · intro wz hSw
    try dsimp only at hSw
    go_simp
    try with_reducible rfl
  try simp only [Act.put, List.setIfInBounds_toArray, List.set_cons_zero, List.set_cons_succ]
  refine takeN3 (v := ?_) (by kernel_rfl) (by kernel_rfl) (by kernel_rfl) (fun _ _ _ h => h) (by rfl) ?_ (by assumption) ?_
  rotate_left
  · intro wz hSw
    try dsimp only at hSw
    go_simp
    try with_reducible rfl
  try simp only [Act.put, List.setIfInBounds_toArray, List.set_cons_zero, List.set_cons_succ]
  refine comeN4 (by kernel_rfl) (by rfl) (fun K hK => ?_)
  go_simp
  (go_at_call 123; refine (mkOdr_x _).mono ?_; rintro r w3 ⟨p, q, rfl, hp, hq, b3⟩)
  try go_wp2_with fail
  have HP := Lib.hid hp
  have HQ := Lib.hid hq
  have RB3 := Lib.hid (RB0.out.next (chain (below_drew _) b3))
  have B3 := Lib.hid (chain B0.out.drew b3)
  clear b3 hp hq
  have y3 := RB3.out.b4
  refine hK.out _ _ ?_ (fun hHeld => ?_)
  · exact y3
  clear hK K
  try simp only [Act.put, List.setIfInBounds_toArray, List.set_cons_zero, List.set_cons_succ]
  refine comeN5 (by kernel_rfl) (by rfl) (fun K hK => ?_)
  go_simp
  (go_at_call 122; refine ((firstOdr_x a4 c4 20 p q R.orders (namedE (R.orders.map Odr.nm) (at_ R.orders orderB)) _ (HR.out.next B3.out).orders hF.orders (by
    intro i x w1 hx hb
    have hh := namedOdr_x a4 i c4 p q (R.orders.take i) x (orderB x) w1 (cell_up hb HP.out) (cell_up hb HQ.out) (((HR.out.next (chain B3.out hb)).orders).take (Nat.le_of_lt (List.getElem?_eq_some_iff.1 hx).1)) (sz_take hF.orders) (by
      intro w2 hb2
      have RB4 := RB3.out.next (chain hb hb2)
      have HR4 := HR.out.next (chain B3.out (chain hb hb2))
      exact rightOdr_x x _ (HR4.inO x (List.mem_of_getElem? hx)) (hF.sO x (List.mem_of_getElem? hx)).1 (hF.sO x (List.mem_of_getElem? hx)).2)
    rw [named_at hx]
    exact hh)).mono ?_); rintro r w4 ⟨rfl, b4⟩)
  try go_wp2_with fail
  have y4 := cell_up b4 y3
  have B4 := Lib.hid (chain B3.out b4)
  clear b4
  refine hK.out _ _ ?_ (fun hHeld => ?_)
  · exact y4
  clear hK K
  try simp only [Act.put, List.setIfInBounds_toArray, List.set_cons_zero, List.set_cons_succ]
  refine takeN6 (v := ?_) (by kernel_rfl) (by kernel_rfl) (by kernel_rfl) (fun _ _ _ h => h) (by rfl) ?_ (by assumption) ?_
  rotate_left
  · intro wz hSw
    try dsimp only at hSw
    go_simp
    try with_reducible rfl
  try simp only [Act.put, List.setIfInBounds_toArray, List.set_cons_zero, List.set_cons_succ]
  refine wpAnyH_done (by kernel_rfl) ?_ _
  clear hHeld y0 y3 y4
  go_wp2_with fail
  go_ret
  exact ⟨rfl, B4.out⟩

set_option maxHeartbeats 3200000 in
set_option maxRecDepth 100000 in
theorem groups_x {a0 a1 a2 a3 a4 a5 a6 a7 : Option Addr} {c0 c1 c2 c3 c4 c5 c6 c7 : Nat} {R : Rlm} (w : World) (hr : RS w a0 a1 a2 a3 a4 a5 a6 a7 c0 c1 c2 c3 c4 c5 c6 c7 R) (hF : Fit R) :
    Calls Tryz.prog 63 #[.agg #[.slice a0 R.cur.length c0, .slice a1 R.cities.length c1, .slice a2 R.groups.length c2, .slice a3 R.firms.length c3, .slice a4 R.orders.length c4, .slice a5 R.usances.length c5, .slice a6 R.rates.length c6, .slice a7 R.halts.length c7]] w fun r w' => r = .returned (.int .i64 (groupE R)) ∧ Below w.heap.size w w' := by
  have HR := Lib.hid hr
  have RB0 := Lib.hid (RB.new w (a0 := a0) (a1 := a1) (a2 := a2) (a3 := a3) (a4 := a4) (a5 := a5) (a6 := a6) (a7 := a7) (c0 := c0) (c1 := c1) (c2 := c2) (c3 := c3) (c4 := c4) (c5 := c5) (c6 := c6) (c7 := c7) (R := R))
  have B0 := Lib.hid (Below.new1 (w := w) (.cells #[.slice a0 R.cur.length c0, .slice a1 R.cities.length c1, .slice a2 R.groups.length c2, .slice a3 R.firms.length c3, .slice a4 R.orders.length c4, .slice a5 R.usances.length c5, .slice a6 R.rates.length c6, .slice a7 R.halts.length c7] 31))
  have y0 := RB0.out.b2
  clear hr
  go_enter Tryz.func63, Tryz.ntmps63
  go_wp2_with fail
  refine wp_region_held_drew (S := fun w' => w'.cell? ⟨w.heap.size, 2, none⟩ = some (.slice a2 R.groups.length c2)) (by kernel_rfl) ?_ (fun hHeld => ?_)
  · exact y0
  refine takeN0 (v := ?_) (by kernel_rfl) (by kernel_rfl) (by kernel_rfl) (fun _ _ _ h => h) (by rfl) ?_ (by assumption) ?_
  rotate_left
  · intro wz hSw
    try dsimp only at hSw
    go_simp
    try with_reducible rfl
  try simp only [Act.put, List.setIfInBounds_toArray, List.set_cons_zero, List.set_cons_succ]
  refine takeN1 (v := ?_) (by kernel_rfl) (by kernel_rfl) (by kernel_rfl) (fun _ _ _ h => h) (by rfl) ?_ (by assumption) ?_
  rotate_left
  · intro wz hSw
    try dsimp only at hSw
    go_simp
    try with_reducible rfl
  try simp only [Act.put, List.setIfInBounds_toArray, List.set_cons_zero, List.set_cons_succ]
  refine takeN2 (v := ?_) (by kernel_rfl) (by kernel_rfl) (by kernel_rfl) (fun _ _ _ h => h) (by rfl) ?_ (by assumption) ?_
  rotate_left
  · intro wz hSw
    try dsimp only at hSw
    go_simp
    try with_reducible rfl
  try simp only [Act.put, List.setIfInBounds_toArray, List.set_cons_zero, List.set_cons_succ]
  refine comeN3 (by kernel_rfl) (by rfl) (fun K hK => ?_)
  go_simp
  (go_at_call 112; refine (mkInt_x _).mono ?_; rintro r w3 ⟨p, rfl, hp, b3⟩)
  try go_wp2_with fail
  have HP := Lib.hid hp

  have RB3 := Lib.hid (RB0.out.next (chain (below_drew _) b3))
  have B3 := Lib.hid (chain B0.out.drew b3)
  clear b3 hp
  have y3 := RB3.out.b2
  refine hK.out _ _ ?_ (fun hHeld => ?_)
  · exact y3
  clear hK K
  try simp only [Act.put, List.setIfInBounds_toArray, List.set_cons_zero, List.set_cons_succ]
  refine comeN4 (by kernel_rfl) (by rfl) (fun K hK => ?_)
  go_simp
  (go_at_call 111; refine ((firstGrp_x a2 c2 20 p R.groups (plainE (at_ R.groups (fun g => wi g 0 9))) _ (HR.out.next B3.out).groups hF.groups (by
    intro i x w1 hx hb
    have hh := namelessInt_x a2 i c2 p x (wi x 0 9) w1 (cell_up hb HP.out) (by
      intro w2 hb2
      have RB4 := RB3.out.next (chain hb hb2)
      exact rightInt_x x _)
    rw [plain_at hx]
    exact hh)).mono ?_); rintro r w4 ⟨rfl, b4⟩)
  try go_wp2_with fail
  have y4 := cell_up b4 y3
  have B4 := Lib.hid (chain B3.out b4)
  clear b4
  refine hK.out _ _ ?_ (fun hHeld => ?_)
  · exact y4
  clear hK K
  try simp only [Act.put, List.setIfInBounds_toArray, List.set_cons_zero, List.set_cons_succ]
  refine takeN5 (v := ?_) (by kernel_rfl) (by kernel_rfl) (by kernel_rfl) (fun _ _ _ h => h) (by rfl) ?_ (by assumption) ?_
  rotate_left
  · intro wz hSw
    try dsimp only at hSw
    go_simp
    try with_reducible rfl
  try simp only [Act.put, List.setIfInBounds_toArray, List.set_cons_zero, List.set_cons_succ]
  refine wpAnyH_done (by kernel_rfl) ?_ _
  clear hHeld y0 y3 y4
  go_wp2_with fail
  go_ret
  exact ⟨rfl, B4.out⟩

set_option maxHeartbeats 3200000 in
set_option maxRecDepth 100000 in
theorem rates_x {a0 a1 a2 a3 a4 a5 a6 a7 : Option Addr} {c0 c1 c2 c3 c4 c5 c6 c7 : Nat} {R : Rlm} (w : World) (hr : RS w a0 a1 a2 a3 a4 a5 a6 a7 c0 c1 c2 c3 c4 c5 c6 c7 R) (hF : Fit R) :
    Calls Tryz.prog 67 #[.agg #[.slice a0 R.cur.length c0, .slice a1 R.cities.length c1, .slice a2 R.groups.length c2, .slice a3 R.firms.length c3, .slice a4 R.orders.length c4, .slice a5 R.usances.length c5, .slice a6 R.rates.length c6, .slice a7 R.halts.length c7]] w fun r w' => r = .returned (.int .i64 (ratesE R)) ∧ Below w.heap.size w w' := by
  have HR := Lib.hid hr
  have RB0 := Lib.hid (RB.new w (a0 := a0) (a1 := a1) (a2 := a2) (a3 := a3) (a4 := a4) (a5 := a5) (a6 := a6) (a7 := a7) (c0 := c0) (c1 := c1) (c2 := c2) (c3 := c3) (c4 := c4) (c5 := c5) (c6 := c6) (c7 := c7) (R := R))
  have B0 := Lib.hid (Below.new1 (w := w) (.cells #[.slice a0 R.cur.length c0, .slice a1 R.cities.length c1, .slice a2 R.groups.length c2, .slice a3 R.firms.length c3, .slice a4 R.orders.length c4, .slice a5 R.usances.length c5, .slice a6 R.rates.length c6, .slice a7 R.halts.length c7] 31))
  have y0 := RB0.out.b6
  clear hr
  go_enter Tryz.func67, Tryz.ntmps67
  go_wp2_with fail
  refine wp_region_held_drew (S := fun w' => w'.cell? ⟨w.heap.size, 6, none⟩ = some (.slice a6 R.rates.length c6)) (by kernel_rfl) ?_ (fun hHeld => ?_)
  · exact y0
  refine takeN0 (v := ?_) (by kernel_rfl) (by kernel_rfl) (by kernel_rfl) (fun _ _ _ h => h) (by rfl) ?_ (by assumption) ?_
  rotate_left
  · intro wz hSw
    try dsimp only at hSw
    go_simp
    try with_reducible rfl
  try simp only [Act.put, List.setIfInBounds_toArray, List.set_cons_zero, List.set_cons_succ]
  refine takeN1 (v := ?_) (by kernel_rfl) (by kernel_rfl) (by kernel_rfl) (fun _ _ _ h => h) (by rfl) ?_ (by assumption) ?_
  rotate_left
  · intro wz hSw
    try dsimp only at hSw
    go_simp
    try with_reducible rfl
  try simp only [Act.put, List.setIfInBounds_toArray, List.set_cons_zero, List.set_cons_succ]
  refine takeN2 (v := ?_) (by kernel_rfl) (by kernel_rfl) (by kernel_rfl) (fun _ _ _ h => h) (by rfl) ?_ (by assumption) ?_
  rotate_left
  · intro wz hSw
    try dsimp only at hSw
    go_simp
    try with_reducible rfl
  try simp only [Act.put, List.setIfInBounds_toArray, List.set_cons_zero, List.set_cons_succ]
  refine comeN3 (by kernel_rfl) (by rfl) (fun K hK => ?_)
  go_simp
  (go_at_call 131; refine (mkRte_x w.heap.size _).mono ?_; rintro r w3 ⟨p, rfl, hp, b3⟩)
  try go_wp2_with fail
  have HP := Lib.hid hp

  have RB3 := Lib.hid (RB0.out.next (chain (below_drew _) b3))
  have B3 := Lib.hid (chain B0.out.drew b3)
  clear b3 hp
  have y3 := RB3.out.b6
  refine hK.out _ _ ?_ (fun hHeld => ?_)
  · exact y3
  clear hK K
  try simp only [Act.put, List.setIfInBounds_toArray, List.set_cons_zero, List.set_cons_succ]
  refine comeN4 (by kernel_rfl) (by rfl) (fun K hK => ?_)
  go_simp
  (go_at_call 130; refine ((firstRte_x a6 c6 100 p R.rates (plainE (at_ R.rates (rateB R.cur.length))) _ (HR.out.next B3.out).rates hF.rates (by
    intro i x w1 hx hb
    have hh := namelessRte_x a6 i c6 p w.heap.size x (rateB R.cur.length x) w1 (cell_up hb HP.out) (by
      intro w2 hb2
      have RB4 := RB3.out.next (chain hb hb2)
      exact rightRte_x _ _ _ _ x _ RB4.b0 hF.cur)
    rw [plain_at hx]
    exact hh)).mono ?_); rintro r w4 ⟨rfl, b4⟩)
  try go_wp2_with fail
  have y4 := cell_up b4 y3
  have B4 := Lib.hid (chain B3.out b4)
  clear b4
  refine hK.out _ _ ?_ (fun hHeld => ?_)
  · exact y4
  clear hK K
  try simp only [Act.put, List.setIfInBounds_toArray, List.set_cons_zero, List.set_cons_succ]
  refine takeN5 (v := ?_) (by kernel_rfl) (by kernel_rfl) (by kernel_rfl) (fun _ _ _ h => h) (by rfl) ?_ (by assumption) ?_
  rotate_left
  · intro wz hSw
    try dsimp only at hSw
    go_simp
    try with_reducible rfl
  try simp only [Act.put, List.setIfInBounds_toArray, List.set_cons_zero, List.set_cons_succ]
  refine wpAnyH_done (by kernel_rfl) ?_ _
  clear hHeld y0 y3 y4
  go_wp2_with fail
  go_ret
  exact ⟨rfl, B4.out⟩

set_option maxHeartbeats 3200000 in
set_option maxRecDepth 100000 in
theorem halts_x {a0 a1 a2 a3 a4 a5 a6 a7 : Option Addr} {c0 c1 c2 c3 c4 c5 c6 c7 : Nat} {R : Rlm} (w : World) (hr : RS w a0 a1 a2 a3 a4 a5 a6 a7 c0 c1 c2 c3 c4 c5 c6 c7 R) (hF : Fit R) :
    Calls Tryz.prog 68 #[.agg #[.slice a0 R.cur.length c0, .slice a1 R.cities.length c1, .slice a2 R.groups.length c2, .slice a3 R.firms.length c3, .slice a4 R.orders.length c4, .slice a5 R.usances.length c5, .slice a6 R.rates.length c6, .slice a7 R.halts.length c7]] w fun r w' => r = .returned (.int .i64 (haltE R)) ∧ Below w.heap.size w w' := by
  have HR := Lib.hid hr
  have RB0 := Lib.hid (RB.new w (a0 := a0) (a1 := a1) (a2 := a2) (a3 := a3) (a4 := a4) (a5 := a5) (a6 := a6) (a7 := a7) (c0 := c0) (c1 := c1) (c2 := c2) (c3 := c3) (c4 := c4) (c5 := c5) (c6 := c6) (c7 := c7) (R := R))
  have B0 := Lib.hid (Below.new1 (w := w) (.cells #[.slice a0 R.cur.length c0, .slice a1 R.cities.length c1, .slice a2 R.groups.length c2, .slice a3 R.firms.length c3, .slice a4 R.orders.length c4, .slice a5 R.usances.length c5, .slice a6 R.rates.length c6, .slice a7 R.halts.length c7] 31))
  have y0 := RB0.out.b7
  clear hr
  go_enter Tryz.func68, Tryz.ntmps68
  go_wp2_with fail
  refine wp_region_held_drew (S := fun w' => w'.cell? ⟨w.heap.size, 7, none⟩ = some (.slice a7 R.halts.length c7)) (by kernel_rfl) ?_ (fun hHeld => ?_)
  · exact y0
  refine takeN0 (v := ?_) (by kernel_rfl) (by kernel_rfl) (by kernel_rfl) (fun _ _ _ h => h) (by rfl) ?_ (by assumption) ?_
  rotate_left
  · intro wz hSw
    try dsimp only at hSw
    go_simp
    try with_reducible rfl
  try simp only [Act.put, List.setIfInBounds_toArray, List.set_cons_zero, List.set_cons_succ]
  refine takeN1 (v := ?_) (by kernel_rfl) (by kernel_rfl) (by kernel_rfl) (fun _ _ _ h => h) (by rfl) ?_ (by assumption) ?_
  rotate_left
  · intro wz hSw
    try dsimp only at hSw
    go_simp
    try with_reducible rfl
  try simp only [Act.put, List.setIfInBounds_toArray, List.set_cons_zero, List.set_cons_succ]
  refine takeN2 (v := ?_) (by kernel_rfl) (by kernel_rfl) (by kernel_rfl) (fun _ _ _ h => h) (by rfl) ?_ (by assumption) ?_
  rotate_left
  · intro wz hSw
    try dsimp only at hSw
    go_simp
    try with_reducible rfl
  try simp only [Act.put, List.setIfInBounds_toArray, List.set_cons_zero, List.set_cons_succ]
  refine comeN3 (by kernel_rfl) (by rfl) (fun K hK => ?_)
  go_simp
  (go_at_call 134; refine (mkHlt_x w.heap.size _).mono ?_; rintro r w3 ⟨p, rfl, hp, b3⟩)
  try go_wp2_with fail
  have HP := Lib.hid hp

  have RB3 := Lib.hid (RB0.out.next (chain (below_drew _) b3))
  have B3 := Lib.hid (chain B0.out.drew b3)
  clear b3 hp
  have y3 := RB3.out.b7
  refine hK.out _ _ ?_ (fun hHeld => ?_)
  · exact y3
  clear hK K
  try simp only [Act.put, List.setIfInBounds_toArray, List.set_cons_zero, List.set_cons_succ]
  refine comeN4 (by kernel_rfl) (by rfl) (fun K hK => ?_)
  go_simp
  (go_at_call 133; refine ((firstHlt_x a7 c7 20 p R.halts (plainE (at_ R.halts (haltB R.orders.length))) _ (HR.out.next B3.out).halts hF.halts (by
    intro i x w1 hx hb
    have hh := namelessHlt_x a7 i c7 p w.heap.size x (haltB R.orders.length x) w1 (cell_up hb HP.out) (by
      intro w2 hb2
      have RB4 := RB3.out.next (chain hb hb2)
      exact rightHlt_x _ _ _ _ x _ RB4.b4 hF.orders)
    rw [plain_at hx]
    exact hh)).mono ?_); rintro r w4 ⟨rfl, b4⟩)
  try go_wp2_with fail
  have y4 := cell_up b4 y3
  have B4 := Lib.hid (chain B3.out b4)
  clear b4
  refine hK.out _ _ ?_ (fun hHeld => ?_)
  · exact y4
  clear hK K
  try simp only [Act.put, List.setIfInBounds_toArray, List.set_cons_zero, List.set_cons_succ]
  refine takeN5 (v := ?_) (by kernel_rfl) (by kernel_rfl) (by kernel_rfl) (fun _ _ _ h => h) (by rfl) ?_ (by assumption) ?_
  rotate_left
  · intro wz hSw
    try dsimp only at hSw
    go_simp
    try with_reducible rfl
  try simp only [Act.put, List.setIfInBounds_toArray, List.set_cons_zero, List.set_cons_succ]
  refine wpAnyH_done (by kernel_rfl) ?_ _
  clear hHeld y0 y3 y4
  go_wp2_with fail
  go_ret
  exact ⟨rfl, B4.out⟩

end Go.Proofs.YtcjakgpmompaiaaGreatDoor
