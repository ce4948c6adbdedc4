/-
  RealmUsances: the walk.
-/
import Derived.Test.YtagdikghpiiabaaLawC
import Derived.Test.YtagdikghpiiabaaHand2
namespace Go.Proofs.Ytagdikghpiiabaa
open Go.RowKit Rl

theorem flat_inv : ∀ (l : List (List Value)) (k j : Nat) (v : Value), (∀ r ∈ l, r.length = k) → l.flatten[j]? = some v → ∃ (q i : Nat) (x : List Value), l[q]? = some x ∧ x[i]? = some v ∧ j = q * k + i
  | [], _, _, _, _, h => by simp at h
  | r :: l, k, j, v, hk, h => by
    have hr := hk r (by simp)
    rw [List.flatten_cons] at h
    by_cases c : j < r.length
    · rw [List.getElem?_append_left c] at h
      exact ⟨0, j, r, rfl, h, by omega⟩
    · rw [List.getElem?_append_right (by omega)] at h
      obtain ⟨q, i, x, h1, h2, h3⟩ := flat_inv l k _ v (fun r h => hk r (by simp [h])) h
      exact ⟨q + 1, i, x, h1, h2, by rw [Nat.succ_mul]; omega⟩
theorem flat_len : ∀ (l : List (List Value)) (k : Nat), (∀ r ∈ l, r.length = k) → l.flatten.length = l.length * k
  | [], _, _ => by simp
  | r :: l, k, hk => by rw [List.flatten_cons, List.length_append, hk r (by simp), flat_len l k (fun r h => hk r (by simp [h])), List.length_cons, Nat.succ_mul]; omega
abbrev usF (l : List Usn) : List Value := (l.map cUsn).flatten
theorem usF_len (l : List Usn) : (usF l).length = l.length * 3 := by
  unfold usF
  rw [flat_len _ 3 (fun r hr => by obtain ⟨x, -, rfl⟩ := List.mem_map.1 hr; rfl), List.length_map]
theorem usF_one (l : List Usn) : ∀ u ∈ usF l, u.oneCell' = true := by
  intro u hu
  obtain ⟨r, hr, hu⟩ := List.mem_flatten.1 hu
  obtain ⟨x, -, rfl⟩ := List.mem_map.1 hr
  simp only [cUsn, List.mem_cons, List.not_mem_nil, or_false] at hu
  rcases hu with rfl | rfl | rfl <;> rfl
theorem usF_app (a b : List Usn) : usF (a ++ b) = usF a ++ usF b := by unfold usF; rw [List.map_append, List.flatten_append]
theorem at_flat {w : World} {b off n cap : Nat} {l : List Usn} (h : UAt w (.slice (some ⟨b, off, none⟩) n cap) l) : ∀ (j : Nat) (v : Value), (usF l)[j]? = some v → w.cell? ⟨b, off + j, none⟩ = some v := by
  intro j v hv
  obtain ⟨q, i, x, h1, h2, rfl⟩ := flat_inv _ 3 j v (fun r hr => by obtain ⟨x, -, rfl⟩ := List.mem_map.1 hr; rfl) hv
  rw [List.getElem?_map] at h1
  obtain ⟨y, hy, rfl⟩ := Option.map_eq_some_iff.1 h1
  obtain ⟨b', off', e, -, hc⟩ := h.at hy
  simp only [Option.some.injEq, Addr.mk.injEq, and_true] at e
  obtain ⟨rfl, rfl⟩ := e
  have := hc i v h2
  rw [show off + (q * 3 + i) = off + q * 3 + i by omega]
  exact this
theorem add_plain' (g o j : Nat) : (⟨g, o, none⟩ : Addr).add j = ⟨g, o + j, none⟩ := by unfold Addr.add; split <;> simp_all
theorem own_us {w : World} {base n : Nat} {T : TypeId} {v : Value} {l : List Usn} (h : w.ownsRow base T 3 v n (usF l)) (hn : n = l.length) : UAt w v l ∧ ∃ a c, v = .slice a l.length c := by
  subst hn
  rcases h.2 with ⟨rfl, h0⟩ | ⟨g, cap, cur, rfl, hg, hh, h1, h2, h3, h4⟩
  · have : l = [] := List.eq_nil_of_length_eq_zero h0
    subst this
    exact ⟨LAt.nil _ _ _, none, 0, rfl⟩
  · refine ⟨Fl.row ⟨(h.lt g rfl).2, fun j v hv => ?_⟩ (fun _ _ => rfl) h1, _, _, rfl⟩
    have hj := (List.getElem?_eq_some_iff.1 hv).1
    have hj2 : j < l.length * 3 := by rw [← usF_len]; exact hj
    rw [h.cellAt j hj2]
    exact hv
theorem cell_up' {W W' : World} {p : Addr} {y : Value} (hb : Below W.heap.size W W') (h : W.cell? p = some y) : W'.cell? p = some y := by
  rw [hb.cell (World.block_lt_of_cell? W p h)]
  exact h
/-- what the call owns reads as it did, behind a store into a block ahead of it -/
theorem us_far {w : World} {base g o n : Nat} {T : TypeId} {v u : Value} {l : List Usn} (h : UAt w v l) (ho : w.ownsRow base T 3 v n (usF l)) (hg : g < base := by exact Nat.lt_succ_self _) : UAt (w.setCell ⟨g, o, none⟩ u) v l := by
  obtain ⟨a, cap, rfl, hcap, hh⟩ := h.row
  refine ⟨⟨a, cap, rfl, hcap, fun j x hx => ?_⟩⟩
  obtain ⟨b, off, rfl, hb, hc⟩ := hh j x hx
  have hne : base ≤ b := (ho.lt b rfl).1
  exact ⟨b, off, rfl, by simpa using hb, fun i y hy => by
    rw [World.cell?_setCell_other _ _ _ _ (by intro e; injection e with e _ _; omega)]
    exact hc i y hy⟩
theorem wp_app_none {P : Program} {w : World} {o : Oper} {a : Act} {K : Act → World → Prop} {Q : Exit → Act → World → Prop} (s x : Operand) (t : TypeId)
    (ho : o.op = .call { callee := .builtin .append, args := #[s, x], argTypes := #[t, t] })
    (base : Nat) (e : TypeId) (i : TypeInfo) (size : Nat) (ht : P.underlying t = some (.slice e)) (hi : P.info? e = some i)
    (v : Value) (n : Nat) (xs : List Value) (hs : a.eval s = v) (hown : w.ownsRow base e size v n xs) (N C : Nat) (hx : a.eval x = .slice none N C) (hN : N = 0)
    (h : K (a.put o.dst v) w) : o.wp P a w K Q := by
  subst hN
  have hrun : (Builtin.append_ #[t, t] o.type #[v, .slice none 0 C]).run P w = .ok v w := by
    rcases hown.2 with ⟨rfl, rfl⟩ | ⟨g, cap, cur, rfl, _, _, hnc, _⟩
    · simp [Builtin.append_, run_underlying ht, sizeOf, typeInfo, hi, Builtin.lenOf, Builtin.firstCells]
    · simp [Builtin.append_, run_underlying ht, sizeOf, typeInfo, hi, Builtin.lenOf, Builtin.firstCells, hnc, storeCells]
  unfold Oper.wp
  simp [execOp, ho, resolve, invoke, builtin, hs, hx, hrun, Result.andThen]
  exact h
theorem infoU : (Try.prog.info? 51).map (fun i => (i.zero, i.size, i.bytes)) = some (some (.agg #[.int .i64 0, .int .i64 0, .int .i64 0]), 3, 24) := by kernel_rfl
/-- the box of the turned realm -/
structure TB (w : World) (g : Nat) (a0 a1 a2 a3 a4 a5' a6 a7 : Option Addr) (c0 c1 c2 c3 c4 c5' c6 c7 : Nat) (R : Rlm) : Prop where
  b0 : w.cell? ⟨g, 0, none⟩ = some (.slice a0 R.cur.length c0)
  b1 : w.cell? ⟨g, 1, none⟩ = some (.slice a1 R.cities.length c1)
  b2 : w.cell? ⟨g, 2, none⟩ = some (.slice a2 R.groups.length c2)
  b3 : w.cell? ⟨g, 3, none⟩ = some (.slice a3 R.firms.length c3)
  b4 : w.cell? ⟨g, 4, none⟩ = some (.slice a4 R.orders.length c4)
  b5 : w.cell? ⟨g, 5, none⟩ = some (.slice a5' R.usances.length c5')
  b6 : w.cell? ⟨g, 6, none⟩ = some (.slice a6 R.rates.length c6)
  b7 : w.cell? ⟨g, 7, none⟩ = some (.slice a7 R.halts.length c7)
theorem TB.next {w w' : World} {g : Nat} {a0 a1 a2 a3 a4 a5' a6 a7 : Option Addr} {c0 c1 c2 c3 c4 c5' c6 c7 : Nat} {R : Rlm} (h : TB w g a0 a1 a2 a3 a4 a5' a6 a7 c0 c1 c2 c3 c4 c5' c6 c7 R) (hb : Below w.heap.size w w') : TB w' g a0 a1 a2 a3 a4 a5' a6 a7 c0 c1 c2 c3 c4 c5' c6 c7 R := ⟨cell_up hb h.b0, cell_up hb h.b1, cell_up hb h.b2, cell_up hb h.b3, cell_up hb h.b4, cell_up hb h.b5, cell_up hb h.b6, cell_up hb h.b7⟩
/-- what stands behind the turning -/
def TurnRel (_w w3 : World) (f : Nat) (a0 a1 a2 a3 a4 a6 a7 : Option Addr) (c0 c1 c2 c3 c4 c6 c7 : Nat) (R : Rlm) (wx : World) : Prop := ∃ (a5' : Option Addr) (c5' : Nat), TB wx w3.heap.size a0 a1 a2 a3 a4 a5' a6 a7 c0 c1 c2 c3 c4 c5' c6 c7 R ∧ UAt wx (.slice a5' R.usances.length c5') (turnR R f).usances ∧ Below w3.heap.size w3 wx

set_option maxHeartbeats 12800000 in
set_option maxRecDepth 100000 in
theorem RealmUsances_x {a0 a1 a2 a3 a4 a5 a6 a7 : Option Addr} {c0 c1 c2 c3 c4 c5 c6 c7 : Nat} {R : Rlm} (a b f : Int) (w : World) (hr : RS w a0 a1 a2 a3 a4 a5 a6 a7 c0 c1 c2 c3 c4 c5 c6 c7 R) (hF : FitW R) :
    Calls Try.prog 6 #[.agg #[.slice a0 R.cur.length c0, .slice a1 R.cities.length c1, .slice a2 R.groups.length c2, .slice a3 R.firms.length c3, .slice a4 R.orders.length c4, .slice a5 R.usances.length c5, .slice a6 R.rates.length c6, .slice a7 R.halts.length c7], .int .i64 a, .int .i64 b, .int .i64 f] w fun r w' => r = .returned (.bool true) ∧ Below w.heap.size w w' := by
  have HR := Lib.hid hr
  have RB0 := Lib.hid (RB.new w (a0 := a0) (a1 := a1) (a2 := a2) (a3 := a3) (a4 := a4) (a5 := a5) (a6 := a6) (a7 := a7) (c0 := c0) (c1 := c1) (c2 := c2) (c3 := c3) (c4 := c4) (c5 := c5) (c6 := c6) (c7 := c7) (R := R))
  have B0 := Lib.hid (Below.new1 (w := w) (.cells #[.slice a0 R.cur.length c0, .slice a1 R.cities.length c1, .slice a2 R.groups.length c2, .slice a3 R.firms.length c3, .slice a4 R.orders.length c4, .slice a5 R.usances.length c5, .slice a6 R.rates.length c6, .slice a7 R.halts.length c7] 31))
  clear hr
  go_enter Try.func6, Try.ntmps6
  go_wp2_with fail
  refine (sane_x _).mono ?_
  rintro r w1 ⟨rfl, b1⟩
  have B1 := Lib.hid (chain B0.out b1)
  have RB1 := Lib.hid (RB0.out.next b1)
  clear b1
  have y0 := RB1.out.b0
  have y1 := RB1.out.b1
  have y2 := RB1.out.b2
  have y3 := RB1.out.b3
  have y4 := RB1.out.b4
  have y5 := RB1.out.b5
  have y6 := RB1.out.b6
  have y7 := RB1.out.b7
  go_wp2_with fail
  refine (Few_x _ (HR.out.next B1.out) hF).mono ?_
  rintro r w2 ⟨⟨few, rfl, hfew⟩, b2⟩
  have B2 := Lib.hid (chain B1.out b2)
  have RB2 := Lib.hid (RB1.out.next b2)
  clear b2
  clear y0 y1 y2 y3 y4 y5 y6 y7
  cases few with
  | false =>
    clear hfew
    go_wp2_with fail
    go_ret
    exact ⟨rfl, B2.out⟩
  | true =>
    have hfit := hfew rfl
    have HFT := Lib.hid hfit
    clear hfew hfit
    have y0 := RB2.out.b0
    have y1 := RB2.out.b1
    have y2 := RB2.out.b2
    have y3 := RB2.out.b3
    have y4 := RB2.out.b4
    have y5 := RB2.out.b5
    have y6 := RB2.out.b6
    have y7 := RB2.out.b7
    go_wp2_with fail
    refine (Check_x _ (HR.out.next B2.out) HFT.out).mono ?_
    rintro r w3 ⟨rfl, b3⟩
    have B3 := Lib.hid (chain B2.out b3)
    have RB3 := Lib.hid (RB2.out.next b3)
    clear b3
    clear y0 y1 y2 y3 y4 y5 y6 y7
    by_cases hck : checkP R = 0
    case neg =>
      have f1 : (checkP R != 0) = true := nbt hck
      clear hck
      have y5 := RB3.out.b5
      go_wp2_with fail
      go_ret
      exact ⟨rfl, B3.out⟩
    have f1 : (checkP R != 0) = false := nbf hck
    have HCK := Lib.hid hck
    clear hck
    have y0 := RB3.out.b0
    have y1 := RB3.out.b1
    have y2 := RB3.out.b2
    have y3 := RB3.out.b3
    have y4 := RB3.out.b4
    have y5 := RB3.out.b5
    have y6 := RB3.out.b6
    have y7 := RB3.out.b7
    by_cases i0 : f < 0
    · skip
      go_wp2_with fail
      go_ret
      exact ⟨rfl, B3.out⟩
    by_cases i1 : (R.usances.length : Int) < f
    · skip
      go_wp2_with fail
      go_ret
      exact ⟨rfl, B3.out⟩
    obtain ⟨m, rfl⟩ := Int.eq_ofNat_of_zero_le (show 0 ≤ f by omega)
    have hm : m ≤ R.usances.length := by omega
    have m0 : (0 : Int) ≤ (m : Int) := by omega
    have m1 : (m : Int) ≤ (R.usances.length : Int) := by omega
    have TZ := Lib.hid (turn_zero (f := m) HCK.out)
    go_upto_region 5 with fail
    go_cut [] (fun wx => TurnRel w w3 m a0 a1 a2 a3 a4 a6 a7 c0 c1 c2 c3 c4 c6 c7 R wx)
    case first =>
      have hsz := HFT.out.usances
      have hs6 := HFT.out.s6
      rcases Nat.eq_zero_or_pos R.usances.length with hn | hn
      · have hus := (HR.out.next B3.out).usances
        have hcap := hus.len.2
        have k1 : (R.usances.length : Int) ≤ (c5 : Int) := by omega
        have k2 : (m : Int) ≤ (c5 : Int) := by omega
        have hnil : R.usances = [] := List.eq_nil_of_length_eq_zero hn
        have HNIL := Lib.hid hnil
        clear hnil hn hus
        cases a5 with
        | none =>
          have bx := Below.new1 (w := w3) (.cells #[.slice a0 R.cur.length c0, .slice a1 R.cities.length c1, .slice a2 R.groups.length c2, .slice a3 R.firms.length c3, .slice a4 R.orders.length c4, .slice none R.usances.length c5, .slice a6 R.rates.length c6, .slice a7 R.halts.length c7] 31)
          have zz : (w3.alloc (.cells #[.slice a0 R.cur.length c0, .slice a1 R.cities.length c1, .slice a2 R.groups.length c2, .slice a3 R.firms.length c3, .slice a4 R.orders.length c4, .slice none R.usances.length c5, .slice a6 R.rates.length c6, .slice a7 R.halts.length c7] 31)).heap.size = w3.heap.size + 1 := by simp
          have ZZ := Lib.hid zz
          have BX := Lib.hid bx
          have p5 := cell_up bx RB3.out.b5
          have BE : Hid (Below (w3.alloc (.cells #[.slice a0 R.cur.length c0, .slice a1 R.cities.length c1, .slice a2 R.groups.length c2, .slice a3 R.firms.length c3, .slice a4 R.orders.length c4, .slice none R.usances.length c5, .slice a6 R.rates.length c6, .slice a7 R.halts.length c7] 31)).heap.size (w3.alloc (.cells #[.slice a0 R.cur.length c0, .slice a1 R.cities.length c1, .slice a2 R.groups.length c2, .slice a3 R.firms.length c3, .slice a4 R.orders.length c4, .slice none R.usances.length c5, .slice a6 R.rates.length c6, .slice a7 R.halts.length c7] 31)) ((w3.alloc (.cells #[.slice a0 R.cur.length c0, .slice a1 R.cities.length c1, .slice a2 R.groups.length c2, .slice a3 R.firms.length c3, .slice a4 R.orders.length c4, .slice none R.usances.length c5, .slice a6 R.rates.length c6, .slice a7 R.halts.length c7] 31)).drew.alloc (.cells #[] 51))) := chain (below_drew _) (Below.new1 _)
          have own0 : Hid (((w3.alloc (.cells #[.slice a0 R.cur.length c0, .slice a1 R.cities.length c1, .slice a2 R.groups.length c2, .slice a3 R.firms.length c3, .slice a4 R.orders.length c4, .slice none R.usances.length c5, .slice a6 R.rates.length c6, .slice a7 R.halts.length c7] 31)).drew.alloc (.cells #[] 51)).ownsRow (w3.heap.size + 1) 51 3 (.slice (some ⟨w3.heap.size + 1, 0, none⟩) 0 0) 0 []) := by
            have h := World.ownsRow_lit (e := 51) (size := 3) (base := w3.heap.size + 1) (w3.alloc (.cells #[.slice a0 R.cur.length c0, .slice a1 R.cities.length c1, .slice a2 R.groups.length c2, .slice a3 R.firms.length c3, .slice a4 R.orders.length c4, .slice none R.usances.length c5, .slice a6 R.rates.length c6, .slice a7 R.halts.length c7] 31)).drew #[] 0 (by show _ ≤ (w3.alloc (.cells #[.slice a0 R.cur.length c0, .slice a1 R.cities.length c1, .slice a2 R.groups.length c2, .slice a3 R.firms.length c3, .slice a4 R.orders.length c4, .slice none R.usances.length c5, .slice a6 R.rates.length c6, .slice a7 R.halts.length c7] 31)).heap.size; omega) (by decide) rfl
            rw [show (w3.alloc (.cells #[.slice a0 R.cur.length c0, .slice a1 R.cities.length c1, .slice a2 R.groups.length c2, .slice a3 R.firms.length c3, .slice a4 R.orders.length c4, .slice none R.usances.length c5, .slice a6 R.rates.length c6, .slice a7 R.halts.length c7] 31)).drew.heap.size = w3.heap.size + 1 from zz] at h
            exact h
          have hz1 : R.usances.length - m = 0 := by have := HNIL.out; rw [this]; simp
          have hz2 : m = 0 := by have := HNIL.out; rw [this] at hm; simpa using hm
          have HZ1 := Lib.hid hz1
          have HZ2 := Lib.hid hz2
          clear zz bx hz1 hz2
          obtain ⟨rj, hj, hy0, hy1, hy2⟩ := info_parts infoU
          have Hj := Lib.hid hj
          have Hy0 := Lib.hid hy0
          have Hy1 := Lib.hid hy1
          have Hy2 := Lib.hid hy2
          clear hj hy0 hy1 hy2
          refine wp_region_held_drew (S := fun w' => w'.cell? ⟨w.heap.size, 5, none⟩ = some (.slice none R.usances.length c5)) (by kernel_rfl) ?_ (fun hHeld => ?_)
          · exact p5
          refine takeN1 (v := ?_) (by kernel_rfl) (by kernel_rfl) (by kernel_rfl) (fun _ _ _ h => h) (by rfl) ?_ (by assumption) ?_
          rotate_left
          · intro wz hSw
            try dsimp only at hSw
            go_simp
            try with_reducible rfl
          try simp only [Act.put, List.setIfInBounds_toArray, List.set_cons_zero, List.set_cons_succ]
          refine takeN2 (v := ?_) (by kernel_rfl) (by kernel_rfl) (by kernel_rfl) (fun _ _ _ h => h) (by rfl) ?_ (by assumption) ?_
          rotate_left
          · intro wz hSw
            try dsimp only at hSw
            go_simp
            try with_reducible rfl
          try simp only [Act.put, List.setIfInBounds_toArray, List.set_cons_zero, List.set_cons_succ]
          refine takeN3 (v := ?_) (by kernel_rfl) (by kernel_rfl) (by kernel_rfl) (fun _ _ _ h => h) (by rfl) ?_ (by assumption) ?_
          rotate_left
          · intro wz hSw
            try dsimp only at hSw
            go_simp
            try with_reducible rfl
          try simp only [Act.put, List.setIfInBounds_toArray, List.set_cons_zero, List.set_cons_succ]
          refine takeN4 (v := ?_) (by kernel_rfl) (by kernel_rfl) (by kernel_rfl) (fun _ _ _ h => h) (by rfl) ?_ (by assumption) ?_
          rotate_left
          · intro wz hSw
            try dsimp only at hSw
            go_simp
            try with_reducible rfl
          try simp only [Act.put, List.setIfInBounds_toArray, List.set_cons_zero, List.set_cons_succ]
          refine takeN6 (v := ?_) (by kernel_rfl) (by kernel_rfl) (by kernel_rfl) (fun _ _ _ h => h) (by rfl) ?_ (by assumption) ?_
          rotate_left
          · intro wz hSw
            try dsimp only at hSw
            go_simp
            try with_reducible rfl
          try simp only [Act.put, List.setIfInBounds_toArray, List.set_cons_zero, List.set_cons_succ]
          refine takeN7 (v := ?_) (by kernel_rfl) (by kernel_rfl) (by kernel_rfl) (fun _ _ _ h => h) (by rfl) ?_ (by assumption) ?_
          rotate_left
          · intro wz hSw
            try dsimp only at hSw
            go_simp
            try with_reducible rfl
          try simp only [Act.put, List.setIfInBounds_toArray, List.set_cons_zero, List.set_cons_succ]
          refine takeN8 (v := ?_) (by kernel_rfl) (by kernel_rfl) (by kernel_rfl) (fun _ _ _ h => h) (by rfl) ?_ (by assumption) ?_
          rotate_left
          · intro wz hSw
            try dsimp only at hSw
            go_simp
            try with_reducible rfl
          try simp only [Act.put, List.setIfInBounds_toArray, List.set_cons_zero, List.set_cons_succ]
          refine takeN9 (v := ?_) (by kernel_rfl) (by kernel_rfl) (by kernel_rfl) (fun _ _ _ h => h) (by rfl) ?_ (by assumption) ?_
          rotate_left
          · intro wz hSw
            try dsimp only at hSw
            go_simp
            try with_reducible rfl
          try simp only [Act.put, List.setIfInBounds_toArray, List.set_cons_zero, List.set_cons_succ]
          refine comeN0 (by kernel_rfl) (by rfl) (fun K hK => ?_)
          go_simp
          have p6 := cell_up BE.out p5
          refine hK.out _ _ ?_ (fun hHeld => ?_)
          · exact p6
          clear hK K
          try simp only [Act.put, List.setIfInBounds_toArray, List.set_cons_zero, List.set_cons_succ]
          refine comeN5 (by kernel_rfl) (by rfl) (fun K hK => ?_)
          refine wp_app_none (.tmp 39) (.tmp 43) 27 rfl (w3.heap.size + 1) 51 rj 3 Try.underlying27 Hj.out _ 0 [] rfl own0.out _ _ rfl HZ1.out ?_

          refine hK.out _ _ ?_ (fun hHeld => ?_)
          · exact p6
          clear hK K
          try simp only [Act.put, List.setIfInBounds_toArray, List.set_cons_zero, List.set_cons_succ]
          refine comeN10 (by kernel_rfl) (by rfl) (fun K hK => ?_)
          refine wp_app_none (.tmp 44) (.tmp 48) 27 rfl (w3.heap.size + 1) 51 rj 3 Try.underlying27 Hj.out _ 0 [] rfl own0.out _ _ rfl HZ2.out ?_

          refine hK.out _ _ ?_ (fun hHeld => ?_)
          · exact p6
          clear hK K
          try simp only [Act.put, List.setIfInBounds_toArray, List.set_cons_zero, List.set_cons_succ]
          refine takeN11 (v := ?_) (by kernel_rfl) (by kernel_rfl) (by kernel_rfl) (fun _ _ _ h => h) (by rfl) ?_ (by assumption) ?_
          rotate_left
          · intro wz hSw
            try dsimp only at hSw
            go_simp
            try with_reducible rfl
          try simp only [Act.put, List.setIfInBounds_toArray, List.set_cons_zero, List.set_cons_succ]
          refine comeN12 (by kernel_rfl) (by rfl) (fun K hK => ?_)
          have BA6 : Hid (Below (w3.heap.size + 1) (w3.alloc (.cells #[.slice a0 R.cur.length c0, .slice a1 R.cities.length c1, .slice a2 R.groups.length c2, .slice a3 R.firms.length c3, .slice a4 R.orders.length c4, .slice none R.usances.length c5, .slice a6 R.rates.length c6, .slice a7 R.halts.length c7] 31)) ((w3.alloc (.cells #[.slice a0 R.cur.length c0, .slice a1 R.cities.length c1, .slice a2 R.groups.length c2, .slice a3 R.firms.length c3, .slice a4 R.orders.length c4, .slice none R.usances.length c5, .slice a6 R.rates.length c6, .slice a7 R.halts.length c7] 31)).drew.alloc (.cells #[] 51))) := BE.out.mono (Nat.le_of_eq ZZ.out.symm)
          have hx : ∀ i : Nat, ((w3.alloc (.cells #[.slice a0 R.cur.length c0, .slice a1 R.cities.length c1, .slice a2 R.groups.length c2, .slice a3 R.firms.length c3, .slice a4 R.orders.length c4, .slice none R.usances.length c5, .slice a6 R.rates.length c6, .slice a7 R.halts.length c7] 31)).drew.alloc (.cells #[] 51)).cell? ⟨w3.heap.size, i, none⟩ = (w3.alloc (.cells #[.slice a0 R.cur.length c0, .slice a1 R.cities.length c1, .slice a2 R.groups.length c2, .slice a3 R.firms.length c3, .slice a4 R.orders.length c4, .slice none R.usances.length c5, .slice a6 R.rates.length c6, .slice a7 R.halts.length c7] 31)).cell? ⟨w3.heap.size, i, none⟩ := fun i => BA6.out.cell (p := ⟨w3.heap.size, i, none⟩) (Nat.lt_succ_self _)
          have hx5 : ((w3.alloc (.cells #[.slice a0 R.cur.length c0, .slice a1 R.cities.length c1, .slice a2 R.groups.length c2, .slice a3 R.firms.length c3, .slice a4 R.orders.length c4, .slice none R.usances.length c5, .slice a6 R.rates.length c6, .slice a7 R.halts.length c7] 31)).drew.alloc (.cells #[] 51)).cell? ⟨w3.heap.size, 5, none⟩ = some (.slice none R.usances.length c5) := by rw [hx, World.cell?_alloc_new]; rfl
          have fx5 : ((w3.alloc (.cells #[.slice a0 R.cur.length c0, .slice a1 R.cities.length c1, .slice a2 R.groups.length c2, .slice a3 R.firms.length c3, .slice a4 R.orders.length c4, .slice none R.usances.length c5, .slice a6 R.rates.length c6, .slice a7 R.halts.length c7] 31)).drew.alloc (.cells #[] 51)).frozen? ⟨w3.heap.size, 5, none⟩ = false := by rw [BA6.out.frozen (p := ⟨w3.heap.size, 5, none⟩) (Nat.lt_succ_self _)]; simp
          have bq : Below (w3.alloc (.cells #[.slice a0 R.cur.length c0, .slice a1 R.cities.length c1, .slice a2 R.groups.length c2, .slice a3 R.firms.length c3, .slice a4 R.orders.length c4, .slice (some ⟨w3.heap.size + 1, 0, none⟩) 0 0, .slice a6 R.rates.length c6, .slice a7 R.halts.length c7] 31)).heap.size (w3.alloc (.cells #[.slice a0 R.cur.length c0, .slice a1 R.cities.length c1, .slice a2 R.groups.length c2, .slice a3 R.firms.length c3, .slice a4 R.orders.length c4, .slice (some ⟨w3.heap.size + 1, 0, none⟩) 0 0, .slice a6 R.rates.length c6, .slice a7 R.halts.length c7] 31)) ((w3.alloc (.cells #[.slice a0 R.cur.length c0, .slice a1 R.cities.length c1, .slice a2 R.groups.length c2, .slice a3 R.firms.length c3, .slice a4 R.orders.length c4, .slice (some ⟨w3.heap.size + 1, 0, none⟩) 0 0, .slice a6 R.rates.length c6, .slice a7 R.halts.length c7] 31)).alloc (.cells #[] 51)).drew := (Below.new1 _).drew
          have bs : Below w3.heap.size w3 ((w3.alloc (.cells #[.slice a0 R.cur.length c0, .slice a1 R.cities.length c1, .slice a2 R.groups.length c2, .slice a3 R.firms.length c3, .slice a4 R.orders.length c4, .slice (some ⟨w3.heap.size + 1, 0, none⟩) 0 0, .slice a6 R.rates.length c6, .slice a7 R.halts.length c7] 31)).alloc (.cells #[] 51)).drew := chain (Below.new1 _) bq
          have p9 : ((w3.alloc (.cells #[.slice a0 R.cur.length c0, .slice a1 R.cities.length c1, .slice a2 R.groups.length c2, .slice a3 R.firms.length c3, .slice a4 R.orders.length c4, .slice (some ⟨w3.heap.size + 1, 0, none⟩) 0 0, .slice a6 R.rates.length c6, .slice a7 R.halts.length c7] 31)).alloc (.cells #[] 51)).drew.cell? ⟨w.heap.size, 5, none⟩ = some (.slice none R.usances.length c5) := cell_up bs RB3.out.b5
          go_simp
          refine hK.out _ _ ?_ (fun hHeld => ?_)
          · exact p9
          clear hK K
          try simp only [Act.put, List.setIfInBounds_toArray, List.set_cons_zero, List.set_cons_succ]
          refine wpAnyH_done (by kernel_rfl) ?_ _
          clear hHeld
          have HT : Hid (TurnRel w w3 m a0 a1 a2 a3 a4 a6 a7 c0 c1 c2 c3 c4 c6 c7 R ((w3.alloc (.cells #[.slice a0 R.cur.length c0, .slice a1 R.cities.length c1, .slice a2 R.groups.length c2, .slice a3 R.firms.length c3, .slice a4 R.orders.length c4, .slice (some ⟨w3.heap.size + 1, 0, none⟩) 0 0, .slice a6 R.rates.length c6, .slice a7 R.halts.length c7] 31)).alloc (.cells #[] 51)).drew) := by
            have hl : R.usances.length = 0 := by rw [HNIL.out]; rfl
            have ht : (turnR R m).usances = [] := by show R.usances.drop m ++ R.usances.take m = []; rw [HNIL.out]; simp
            refine ⟨some ⟨w3.heap.size + 1, 0, none⟩, 0, ⟨?_, ?_, ?_, ?_, ?_, ?_, ?_, ?_⟩, ?_, bs⟩
            · exact cell_up bq (by rw [World.cell?_alloc_new]; rfl)
            · exact cell_up bq (by rw [World.cell?_alloc_new]; rfl)
            · exact cell_up bq (by rw [World.cell?_alloc_new]; rfl)
            · exact cell_up bq (by rw [World.cell?_alloc_new]; rfl)
            · exact cell_up bq (by rw [World.cell?_alloc_new]; rfl)
            · rw [hl]; exact cell_up bq (by rw [World.cell?_alloc_new]; rfl)
            · exact cell_up bq (by rw [World.cell?_alloc_new]; rfl)
            · exact cell_up bq (by rw [World.cell?_alloc_new]; rfl)
            · rw [hl, ht]
              exact ⟨⟨_, 0, rfl, Nat.le_refl _, fun j x hj => by simp at hj⟩⟩
          go_wp2_with fail
          go_meet
          exact HT.out
        | some ad =>
          obtain ⟨b, off, spot⟩ := ad
          obtain ⟨AD, hAD⟩ : ∃ AD : Addr, (if c5 = m then some (⟨b, off, spot⟩ : Addr) else some ((⟨b, off, spot⟩ : Addr).add (m * 3))) = some AD := by
            by_cases hcm : c5 = m
            · exact ⟨_, if_pos hcm⟩
            · exact ⟨_, if_neg hcm⟩
          have HAD := Lib.hid hAD
          have HD1 : Hid (∀ (j : Nat) (v : Value), (usF (R.usances.drop m))[j]? = some v → w3.cell? (AD.add j) = some v) := by
            intro j v hv
            rw [HNIL.out] at hv
            simp [usF] at hv
          have HD2 : Hid (∀ (j : Nat) (v : Value), (usF (R.usances.take m))[j]? = some v → w3.cell? ((⟨b, off, spot⟩ : Addr).add j) = some v) := by
            intro j v hv
            rw [HNIL.out] at hv
            simp [usF] at hv
          clear hAD
          have bx := Below.new1 (w := w3) (.cells #[.slice a0 R.cur.length c0, .slice a1 R.cities.length c1, .slice a2 R.groups.length c2, .slice a3 R.firms.length c3, .slice a4 R.orders.length c4, .slice (some ⟨b, off, spot⟩) R.usances.length c5, .slice a6 R.rates.length c6, .slice a7 R.halts.length c7] 31)
          have zz : (w3.alloc (.cells #[.slice a0 R.cur.length c0, .slice a1 R.cities.length c1, .slice a2 R.groups.length c2, .slice a3 R.firms.length c3, .slice a4 R.orders.length c4, .slice (some ⟨b, off, spot⟩) R.usances.length c5, .slice a6 R.rates.length c6, .slice a7 R.halts.length c7] 31)).heap.size = w3.heap.size + 1 := by simp
          have ZZ := Lib.hid zz
          have BX := Lib.hid bx
          have p5 := cell_up bx RB3.out.b5
          have BE : Hid (Below (w3.alloc (.cells #[.slice a0 R.cur.length c0, .slice a1 R.cities.length c1, .slice a2 R.groups.length c2, .slice a3 R.firms.length c3, .slice a4 R.orders.length c4, .slice (some ⟨b, off, spot⟩) R.usances.length c5, .slice a6 R.rates.length c6, .slice a7 R.halts.length c7] 31)).heap.size (w3.alloc (.cells #[.slice a0 R.cur.length c0, .slice a1 R.cities.length c1, .slice a2 R.groups.length c2, .slice a3 R.firms.length c3, .slice a4 R.orders.length c4, .slice (some ⟨b, off, spot⟩) R.usances.length c5, .slice a6 R.rates.length c6, .slice a7 R.halts.length c7] 31)) ((w3.alloc (.cells #[.slice a0 R.cur.length c0, .slice a1 R.cities.length c1, .slice a2 R.groups.length c2, .slice a3 R.firms.length c3, .slice a4 R.orders.length c4, .slice (some ⟨b, off, spot⟩) R.usances.length c5, .slice a6 R.rates.length c6, .slice a7 R.halts.length c7] 31)).drew.alloc (.cells #[] 51))) := chain (below_drew _) (Below.new1 _)
          have own0 : Hid (((w3.alloc (.cells #[.slice a0 R.cur.length c0, .slice a1 R.cities.length c1, .slice a2 R.groups.length c2, .slice a3 R.firms.length c3, .slice a4 R.orders.length c4, .slice (some ⟨b, off, spot⟩) R.usances.length c5, .slice a6 R.rates.length c6, .slice a7 R.halts.length c7] 31)).drew.alloc (.cells #[] 51)).ownsRow (w3.heap.size + 1) 51 3 (.slice (some ⟨w3.heap.size + 1, 0, none⟩) 0 0) 0 []) := by
            have h := World.ownsRow_lit (e := 51) (size := 3) (base := w3.heap.size + 1) (w3.alloc (.cells #[.slice a0 R.cur.length c0, .slice a1 R.cities.length c1, .slice a2 R.groups.length c2, .slice a3 R.firms.length c3, .slice a4 R.orders.length c4, .slice (some ⟨b, off, spot⟩) R.usances.length c5, .slice a6 R.rates.length c6, .slice a7 R.halts.length c7] 31)).drew #[] 0 (by show _ ≤ (w3.alloc (.cells #[.slice a0 R.cur.length c0, .slice a1 R.cities.length c1, .slice a2 R.groups.length c2, .slice a3 R.firms.length c3, .slice a4 R.orders.length c4, .slice (some ⟨b, off, spot⟩) R.usances.length c5, .slice a6 R.rates.length c6, .slice a7 R.halts.length c7] 31)).heap.size; omega) (by decide) rfl
            rw [show (w3.alloc (.cells #[.slice a0 R.cur.length c0, .slice a1 R.cities.length c1, .slice a2 R.groups.length c2, .slice a3 R.firms.length c3, .slice a4 R.orders.length c4, .slice (some ⟨b, off, spot⟩) R.usances.length c5, .slice a6 R.rates.length c6, .slice a7 R.halts.length c7] 31)).drew.heap.size = w3.heap.size + 1 from zz] at h
            exact h
          have E1 := Lib.hid (fun (j : Nat) (v : Value) (hv : (usF (R.usances.drop m))[j]? = some v) => cell_up' BE.out (cell_up' bx (HD1.out j v hv)))
          clear zz bx
          obtain ⟨rj, hj, hy0, hy1, hy2⟩ := info_parts infoU
          have Hj := Lib.hid hj
          have Hy0 := Lib.hid hy0
          have Hy1 := Lib.hid hy1
          have Hy2 := Lib.hid hy2
          clear hj hy0 hy1 hy2
          refine wp_region_held_drew (S := fun w' => w'.cell? ⟨w.heap.size, 5, none⟩ = some (.slice (some ⟨b, off, spot⟩) R.usances.length c5)) (by kernel_rfl) ?_ (fun hHeld => ?_)
          · exact p5
          refine takeN1 (v := ?_) (by kernel_rfl) (by kernel_rfl) (by kernel_rfl) (fun _ _ _ h => h) (by rfl) ?_ (by assumption) ?_
          rotate_left
          · intro wz hSw
            try dsimp only at hSw
            go_simp
            try with_reducible rfl
          try simp only [Act.put, List.setIfInBounds_toArray, List.set_cons_zero, List.set_cons_succ]
          refine takeN2 (v := ?_) (by kernel_rfl) (by kernel_rfl) (by kernel_rfl) (fun _ _ _ h => h) (by rfl) ?_ (by assumption) ?_
          rotate_left
          · intro wz hSw
            try dsimp only at hSw
            go_simp
            try with_reducible rfl
          try simp only [Act.put, List.setIfInBounds_toArray, List.set_cons_zero, List.set_cons_succ]
          refine takeN3 (v := ?_) (by kernel_rfl) (by kernel_rfl) (by kernel_rfl) (fun _ _ _ h => h) (by rfl) ?_ (by assumption) ?_
          rotate_left
          · intro wz hSw
            try dsimp only at hSw
            go_simp
            try with_reducible rfl
          try simp only [Act.put, List.setIfInBounds_toArray, List.set_cons_zero, List.set_cons_succ]
          refine takeN4 (v := ?_) (by kernel_rfl) (by kernel_rfl) (by kernel_rfl) (fun _ _ _ h => h) (by rfl) ?_ (by assumption) ?_
          rotate_left
          · intro wz hSw
            try dsimp only at hSw
            go_simp
            try with_reducible rfl
          try simp only [Act.put, List.setIfInBounds_toArray, List.set_cons_zero, List.set_cons_succ]
          refine takeN6 (v := ?_) (by kernel_rfl) (by kernel_rfl) (by kernel_rfl) (fun _ _ _ h => h) (by rfl) ?_ (by assumption) ?_
          rotate_left
          · intro wz hSw
            try dsimp only at hSw
            go_simp
            try with_reducible rfl
          try simp only [Act.put, List.setIfInBounds_toArray, List.set_cons_zero, List.set_cons_succ]
          refine takeN7 (v := ?_) (by kernel_rfl) (by kernel_rfl) (by kernel_rfl) (fun _ _ _ h => h) (by rfl) ?_ (by assumption) ?_
          rotate_left
          · intro wz hSw
            try dsimp only at hSw
            go_simp
            try with_reducible rfl
          try simp only [Act.put, List.setIfInBounds_toArray, List.set_cons_zero, List.set_cons_succ]
          refine takeN8 (v := ?_) (by kernel_rfl) (by kernel_rfl) (by kernel_rfl) (fun _ _ _ h => h) (by rfl) ?_ (by assumption) ?_
          rotate_left
          · intro wz hSw
            try dsimp only at hSw
            go_simp
            try with_reducible rfl
          try simp only [Act.put, List.setIfInBounds_toArray, List.set_cons_zero, List.set_cons_succ]
          refine takeN9 (v := ?_) (by kernel_rfl) (by kernel_rfl) (by kernel_rfl) (fun _ _ _ h => h) (by rfl) ?_ (by assumption) ?_
          rotate_left
          · intro wz hSw
            try dsimp only at hSw
            go_simp
            try with_reducible rfl
          try simp only [Act.put, List.setIfInBounds_toArray, List.set_cons_zero, List.set_cons_succ]
          rw [HAD.out]
          refine comeN0 (by kernel_rfl) (by rfl) (fun K hK => ?_)
          go_simp
          have p6 := cell_up BE.out p5
          refine hK.out _ _ ?_ (fun hHeld => ?_)
          · exact p6
          clear hK K
          try simp only [Act.put, List.setIfInBounds_toArray, List.set_cons_zero, List.set_cons_succ]
          refine comeN5 (by kernel_rfl) (by rfl) (fun K hK => ?_)
          refine wp_append_own _ (.tmp 39) (.tmp 43) 27 rfl (w3.heap.size + 1) 51 rj (.agg #[.int .i64 0, .int .i64 0, .int .i64 0]) 3 24 Try.underlying27 Hj.out Hy0.out Hy1.out Hy2.out rfl (by decide) _ 0 [] rfl own0.out AD (R.usances.length - m) (c5 - m) (usF (R.usances.drop m)) rfl (by rw [usF_len, List.length_drop]) E1.out (usF_one _) (by unfold maxLen; omega) (by omega) ?fb ?_
          case fb => simp
          intro v5 w5 hown5 hgrow5 _
          have hrow : ∀ j, (Value.slice (some (⟨w3.heap.size + 1, 0, none⟩ : Addr)) 0 0).ownBlock = some j → w3.heap.size + 1 ≤ j := fun j hj => (own0.out.lt j hj).1
          have BA5 : Hid (Below (w3.heap.size + 1) (w3.alloc (.cells #[.slice a0 R.cur.length c0, .slice a1 R.cities.length c1, .slice a2 R.groups.length c2, .slice a3 R.firms.length c3, .slice a4 R.orders.length c4, .slice (some ⟨b, off, spot⟩) R.usances.length c5, .slice a6 R.rates.length c6, .slice a7 R.halts.length c7] 31)) w5) := by
            have h := (BE.out.mono (Nat.le_of_eq ZZ.out.symm)).grown hgrow5 (by simp) hrow
            exact h
          have BW5 : Hid (Below w3.heap.size w3 w5) := (BX.out).trans (BA5.out.mono (Nat.le_succ _))
          have p7 : w5.cell? ⟨w.heap.size, 5, none⟩ = some (.slice (some ⟨b, off, spot⟩) R.usances.length c5) := cell_up BW5.out RB3.out.b5
          have hown5' : w5.ownsRow (w3.heap.size + 1) 51 3 v5 (0 + (R.usances.length - m)) (usF (R.usances.drop m)) := by simpa using hown5
          have HO5 := Lib.hid hown5'
          have E2 := Lib.hid (fun (j : Nat) (v : Value) (hv : (usF (R.usances.take m))[j]? = some v) => cell_up' BW5.out (HD2.out j v hv))
          clear hown5 hgrow5 hrow hown5' own0 E1

          refine hK.out _ _ ?_ (fun hHeld => ?_)
          · exact p7
          clear hK K
          try simp only [Act.put, List.setIfInBounds_toArray, List.set_cons_zero, List.set_cons_succ]
          refine comeN10 (by kernel_rfl) (by rfl) (fun K hK => ?_)
          refine wp_append_own _ (.tmp 44) (.tmp 48) 27 rfl (w3.heap.size + 1) 51 rj (.agg #[.int .i64 0, .int .i64 0, .int .i64 0]) 3 24 Try.underlying27 Hj.out Hy0.out Hy1.out Hy2.out rfl (by decide) v5 (0 + (R.usances.length - m)) (usF (R.usances.drop m)) rfl HO5.out ⟨b, off, spot⟩ m c5 (usF (R.usances.take m)) rfl (by rw [usF_len, List.length_take]; omega) E2.out (usF_one _) (by unfold maxLen; omega) (by omega) ?fb ?_
          case fb => have := BA5.out.size; rw [ZZ.out] at this; exact this
          intro v6 w6 hown6 hgrow6 _
          have hrow : ∀ j, v5.ownBlock = some j → w3.heap.size + 1 ≤ j := fun j hj => (HO5.out.lt j hj).1
          have BA6 : Hid (Below (w3.heap.size + 1) (w3.alloc (.cells #[.slice a0 R.cur.length c0, .slice a1 R.cities.length c1, .slice a2 R.groups.length c2, .slice a3 R.firms.length c3, .slice a4 R.orders.length c4, .slice (some ⟨b, off, spot⟩) R.usances.length c5, .slice a6 R.rates.length c6, .slice a7 R.halts.length c7] 31)) w6) := BA5.out.grown hgrow6 (by have := BA5.out.size; rw [ZZ.out] at this; exact this) hrow
          have BW6 : Hid (Below w3.heap.size w3 w6) := (BX.out).trans (BA6.out.mono (Nat.le_succ _))
          have p8 : w6.cell? ⟨w.heap.size, 5, none⟩ = some (.slice (some ⟨b, off, spot⟩) R.usances.length c5) := cell_up BW6.out RB3.out.b5
          rw [← usF_app] at hown6
          have hl6 : 0 + (R.usances.length - m) + m = (R.usances.drop m ++ R.usances.take m).length := by rw [List.length_append, List.length_drop, List.length_take]; omega
          obtain ⟨hat, a5', c5', hv6⟩ := own_us hown6 hl6
          rw [show (R.usances.drop m ++ R.usances.take m).length = R.usances.length from turn_len (R := R) (f := m)] at hv6
          subst hv6
          have HAT := Lib.hid hat
          have HO6 := Lib.hid hown6
          clear hown6 hgrow6 hrow hat E2

          refine hK.out _ _ ?_ (fun hHeld => ?_)
          · exact p8
          clear hK K
          try simp only [Act.put, List.setIfInBounds_toArray, List.set_cons_zero, List.set_cons_succ]
          refine takeN11 (v := ?_) (by kernel_rfl) (by kernel_rfl) (by kernel_rfl) (fun _ _ _ h => h) (by rfl) ?_ (by assumption) ?_
          rotate_left
          · intro wz hSw
            try dsimp only at hSw
            go_simp
            try with_reducible rfl
          try simp only [Act.put, List.setIfInBounds_toArray, List.set_cons_zero, List.set_cons_succ]
          refine comeN12 (by kernel_rfl) (by rfl) (fun K hK => ?_)
          have hx : ∀ i : Nat, w6.cell? ⟨w3.heap.size, i, none⟩ = (w3.alloc (.cells #[.slice a0 R.cur.length c0, .slice a1 R.cities.length c1, .slice a2 R.groups.length c2, .slice a3 R.firms.length c3, .slice a4 R.orders.length c4, .slice (some ⟨b, off, spot⟩) R.usances.length c5, .slice a6 R.rates.length c6, .slice a7 R.halts.length c7] 31)).cell? ⟨w3.heap.size, i, none⟩ := fun i => BA6.out.cell (p := ⟨w3.heap.size, i, none⟩) (Nat.lt_succ_self _)
          have hx5 : w6.cell? ⟨w3.heap.size, 5, none⟩ = some (.slice (some ⟨b, off, spot⟩) R.usances.length c5) := by rw [hx, World.cell?_alloc_new]; rfl
          have fx5 : w6.frozen? ⟨w3.heap.size, 5, none⟩ = false := by rw [BA6.out.frozen (p := ⟨w3.heap.size, 5, none⟩) (Nat.lt_succ_self _)]; simp
          have bs : Below w3.heap.size w3 (w6.setCell ⟨w3.heap.size, 5, none⟩ (.slice a5' R.usances.length c5')) := below_set BW6.out (p := ⟨w3.heap.size, 5, none⟩) (Nat.le_refl _) _
          have p9 : (w6.setCell ⟨w3.heap.size, 5, none⟩ (.slice a5' R.usances.length c5')).cell? ⟨w.heap.size, 5, none⟩ = some (.slice (some ⟨b, off, spot⟩) R.usances.length c5) := cell_up bs RB3.out.b5
          go_simp
          refine hK.out _ _ ?_ (fun hHeld => ?_)
          · exact p9
          clear hK K
          try simp only [Act.put, List.setIfInBounds_toArray, List.set_cons_zero, List.set_cons_succ]
          refine wpAnyH_done (by kernel_rfl) ?_ _
          clear hHeld
          have HT : Hid (TurnRel w w3 m a0 a1 a2 a3 a4 a6 a7 c0 c1 c2 c3 c4 c6 c7 R (w6.setCell ⟨w3.heap.size, 5, none⟩ (.slice a5' R.usances.length c5'))) := by
            refine ⟨a5', c5', ⟨?_, ?_, ?_, ?_, ?_, World.cell?_setCell_same _ _ _ hx5, ?_, ?_⟩, ?_, bs⟩
            · rw [World.cell?_setCell_other _ _ _ _ (by intro e; injection e with _ e _; exact absurd e (by decide)), hx, World.cell?_alloc_new]; rfl
            · rw [World.cell?_setCell_other _ _ _ _ (by intro e; injection e with _ e _; exact absurd e (by decide)), hx, World.cell?_alloc_new]; rfl
            · rw [World.cell?_setCell_other _ _ _ _ (by intro e; injection e with _ e _; exact absurd e (by decide)), hx, World.cell?_alloc_new]; rfl
            · rw [World.cell?_setCell_other _ _ _ _ (by intro e; injection e with _ e _; exact absurd e (by decide)), hx, World.cell?_alloc_new]; rfl
            · rw [World.cell?_setCell_other _ _ _ _ (by intro e; injection e with _ e _; exact absurd e (by decide)), hx, World.cell?_alloc_new]; rfl
            · rw [World.cell?_setCell_other _ _ _ _ (by intro e; injection e with _ e _; exact absurd e (by decide)), hx, World.cell?_alloc_new]; rfl
            · rw [World.cell?_setCell_other _ _ _ _ (by intro e; injection e with _ e _; exact absurd e (by decide)), hx, World.cell?_alloc_new]; rfl
            · have h := HAT.out
              rw [show (R.usances.drop m ++ R.usances.take m) = (turnR R m).usances from rfl] at h
              exact us_far h HO6.out
          go_wp2_with fail
          go_meet
          exact HT.out
      · obtain ⟨u0, hu0⟩ : ∃ u, R.usances[0]? = some u := ⟨_, List.getElem?_eq_getElem hn⟩
        obtain ⟨b, off, ea, hb, -⟩ := (HR.out.next B3.out).usances.at hu0
        have hus := (HR.out.next B3.out).usances
        have hcap := hus.len.2
        subst ea
        have k1 : (R.usances.length : Int) ≤ (c5 : Int) := by omega
        have k2 : (m : Int) ≤ (c5 : Int) := by omega
        have hfl := at_flat hus
        obtain ⟨AD, hAD, hr1⟩ : ∃ AD : Addr, (if c5 = m then some (⟨b, off, none⟩ : Addr) else some ⟨b, off + m * 3, none⟩) = some AD ∧ ∀ (j : Nat) (v : Value), (usF (R.usances.drop m))[j]? = some v → w3.cell? (AD.add j) = some v := by
          by_cases hcm : c5 = m
          · refine ⟨⟨b, off, none⟩, if_pos hcm, fun j v hv => ?_⟩
            have : (usF (R.usances.drop m)).length = 0 := by rw [usF_len, List.length_drop]; omega
            rw [List.eq_nil_of_length_eq_zero this] at hv
            simp at hv
          · refine ⟨⟨b, off + m * 3, none⟩, if_neg hcm, fun j v hv => ?_⟩
            rw [add_plain']
            have h2 : (usF R.usances)[m * 3 + j]? = some v := by
              rw [show R.usances = R.usances.take m ++ R.usances.drop m from (List.take_append_drop m _).symm, usF_app, List.getElem?_append_right (by rw [usF_len, List.length_take]; omega), usF_len, List.length_take, Nat.min_eq_left hm, Nat.add_sub_cancel_left]
              exact hv
            have := hfl _ _ h2
            rw [show off + m * 3 + j = off + (m * 3 + j) by omega]
            exact this
        have hr2 : ∀ (j : Nat) (v : Value), (usF (R.usances.take m))[j]? = some v → w3.cell? ((⟨b, off, none⟩ : Addr).add j) = some v := by
          intro j v hv
          rw [add_plain']
          refine hfl j v ?_
          have hj := (List.getElem?_eq_some_iff.1 hv).1
          rw [show R.usances = R.usances.take m ++ R.usances.drop m from (List.take_append_drop m _).symm, usF_app, List.getElem?_append_left hj]
          exact hv
        have HAD := Lib.hid hAD
        have HD1 := Lib.hid hr1
        have HD2 := Lib.hid hr2
        clear hus hfl hAD hr1 hr2 hu0
        have bx := Below.new1 (w := w3) (.cells #[.slice a0 R.cur.length c0, .slice a1 R.cities.length c1, .slice a2 R.groups.length c2, .slice a3 R.firms.length c3, .slice a4 R.orders.length c4, .slice (some ⟨b, off, none⟩) R.usances.length c5, .slice a6 R.rates.length c6, .slice a7 R.halts.length c7] 31)
        have zz : (w3.alloc (.cells #[.slice a0 R.cur.length c0, .slice a1 R.cities.length c1, .slice a2 R.groups.length c2, .slice a3 R.firms.length c3, .slice a4 R.orders.length c4, .slice (some ⟨b, off, none⟩) R.usances.length c5, .slice a6 R.rates.length c6, .slice a7 R.halts.length c7] 31)).heap.size = w3.heap.size + 1 := by simp
        have ZZ := Lib.hid zz
        have BX := Lib.hid bx
        have p5 := cell_up bx RB3.out.b5
        have BE : Hid (Below (w3.alloc (.cells #[.slice a0 R.cur.length c0, .slice a1 R.cities.length c1, .slice a2 R.groups.length c2, .slice a3 R.firms.length c3, .slice a4 R.orders.length c4, .slice (some ⟨b, off, none⟩) R.usances.length c5, .slice a6 R.rates.length c6, .slice a7 R.halts.length c7] 31)).heap.size (w3.alloc (.cells #[.slice a0 R.cur.length c0, .slice a1 R.cities.length c1, .slice a2 R.groups.length c2, .slice a3 R.firms.length c3, .slice a4 R.orders.length c4, .slice (some ⟨b, off, none⟩) R.usances.length c5, .slice a6 R.rates.length c6, .slice a7 R.halts.length c7] 31)) ((w3.alloc (.cells #[.slice a0 R.cur.length c0, .slice a1 R.cities.length c1, .slice a2 R.groups.length c2, .slice a3 R.firms.length c3, .slice a4 R.orders.length c4, .slice (some ⟨b, off, none⟩) R.usances.length c5, .slice a6 R.rates.length c6, .slice a7 R.halts.length c7] 31)).drew.alloc (.cells #[] 51))) := chain (below_drew _) (Below.new1 _)
        have own0 : Hid (((w3.alloc (.cells #[.slice a0 R.cur.length c0, .slice a1 R.cities.length c1, .slice a2 R.groups.length c2, .slice a3 R.firms.length c3, .slice a4 R.orders.length c4, .slice (some ⟨b, off, none⟩) R.usances.length c5, .slice a6 R.rates.length c6, .slice a7 R.halts.length c7] 31)).drew.alloc (.cells #[] 51)).ownsRow (w3.heap.size + 1) 51 3 (.slice (some ⟨w3.heap.size + 1, 0, none⟩) 0 0) 0 []) := by
          have h := World.ownsRow_lit (e := 51) (size := 3) (base := w3.heap.size + 1) (w3.alloc (.cells #[.slice a0 R.cur.length c0, .slice a1 R.cities.length c1, .slice a2 R.groups.length c2, .slice a3 R.firms.length c3, .slice a4 R.orders.length c4, .slice (some ⟨b, off, none⟩) R.usances.length c5, .slice a6 R.rates.length c6, .slice a7 R.halts.length c7] 31)).drew #[] 0 (by show _ ≤ (w3.alloc (.cells #[.slice a0 R.cur.length c0, .slice a1 R.cities.length c1, .slice a2 R.groups.length c2, .slice a3 R.firms.length c3, .slice a4 R.orders.length c4, .slice (some ⟨b, off, none⟩) R.usances.length c5, .slice a6 R.rates.length c6, .slice a7 R.halts.length c7] 31)).heap.size; omega) (by decide) rfl
          rw [show (w3.alloc (.cells #[.slice a0 R.cur.length c0, .slice a1 R.cities.length c1, .slice a2 R.groups.length c2, .slice a3 R.firms.length c3, .slice a4 R.orders.length c4, .slice (some ⟨b, off, none⟩) R.usances.length c5, .slice a6 R.rates.length c6, .slice a7 R.halts.length c7] 31)).drew.heap.size = w3.heap.size + 1 from zz] at h
          exact h
        have E1 := Lib.hid (fun (j : Nat) (v : Value) (hv : (usF (R.usances.drop m))[j]? = some v) => cell_up' BE.out (cell_up' bx (HD1.out j v hv)))
        clear zz bx
        obtain ⟨rj, hj, hy0, hy1, hy2⟩ := info_parts infoU
        have Hj := Lib.hid hj
        have Hy0 := Lib.hid hy0
        have Hy1 := Lib.hid hy1
        have Hy2 := Lib.hid hy2
        clear hj hy0 hy1 hy2
        refine wp_region_held_drew (S := fun w' => w'.cell? ⟨w.heap.size, 5, none⟩ = some (.slice (some ⟨b, off, none⟩) R.usances.length c5)) (by kernel_rfl) ?_ (fun hHeld => ?_)
        · exact p5
        refine takeN1 (v := ?_) (by kernel_rfl) (by kernel_rfl) (by kernel_rfl) (fun _ _ _ h => h) (by rfl) ?_ (by assumption) ?_
        rotate_left
        · intro wz hSw
          try dsimp only at hSw
          go_simp
          try with_reducible rfl
        try simp only [Act.put, List.setIfInBounds_toArray, List.set_cons_zero, List.set_cons_succ]
        refine takeN2 (v := ?_) (by kernel_rfl) (by kernel_rfl) (by kernel_rfl) (fun _ _ _ h => h) (by rfl) ?_ (by assumption) ?_
        rotate_left
        · intro wz hSw
          try dsimp only at hSw
          go_simp
          try with_reducible rfl
        try simp only [Act.put, List.setIfInBounds_toArray, List.set_cons_zero, List.set_cons_succ]
        refine takeN3 (v := ?_) (by kernel_rfl) (by kernel_rfl) (by kernel_rfl) (fun _ _ _ h => h) (by rfl) ?_ (by assumption) ?_
        rotate_left
        · intro wz hSw
          try dsimp only at hSw
          go_simp
          try with_reducible rfl
        try simp only [Act.put, List.setIfInBounds_toArray, List.set_cons_zero, List.set_cons_succ]
        refine takeN4 (v := ?_) (by kernel_rfl) (by kernel_rfl) (by kernel_rfl) (fun _ _ _ h => h) (by rfl) ?_ (by assumption) ?_
        rotate_left
        · intro wz hSw
          try dsimp only at hSw
          go_simp
          try with_reducible rfl
        try simp only [Act.put, List.setIfInBounds_toArray, List.set_cons_zero, List.set_cons_succ]
        refine takeN6 (v := ?_) (by kernel_rfl) (by kernel_rfl) (by kernel_rfl) (fun _ _ _ h => h) (by rfl) ?_ (by assumption) ?_
        rotate_left
        · intro wz hSw
          try dsimp only at hSw
          go_simp
          try with_reducible rfl
        try simp only [Act.put, List.setIfInBounds_toArray, List.set_cons_zero, List.set_cons_succ]
        refine takeN7 (v := ?_) (by kernel_rfl) (by kernel_rfl) (by kernel_rfl) (fun _ _ _ h => h) (by rfl) ?_ (by assumption) ?_
        rotate_left
        · intro wz hSw
          try dsimp only at hSw
          go_simp
          try with_reducible rfl
        try simp only [Act.put, List.setIfInBounds_toArray, List.set_cons_zero, List.set_cons_succ]
        refine takeN8 (v := ?_) (by kernel_rfl) (by kernel_rfl) (by kernel_rfl) (fun _ _ _ h => h) (by rfl) ?_ (by assumption) ?_
        rotate_left
        · intro wz hSw
          try dsimp only at hSw
          go_simp
          try with_reducible rfl
        try simp only [Act.put, List.setIfInBounds_toArray, List.set_cons_zero, List.set_cons_succ]
        refine takeN9 (v := ?_) (by kernel_rfl) (by kernel_rfl) (by kernel_rfl) (fun _ _ _ h => h) (by rfl) ?_ (by assumption) ?_
        rotate_left
        · intro wz hSw
          try dsimp only at hSw
          go_simp
          try with_reducible rfl
        try simp only [Act.put, List.setIfInBounds_toArray, List.set_cons_zero, List.set_cons_succ]
        rw [HAD.out]
        refine comeN0 (by kernel_rfl) (by rfl) (fun K hK => ?_)
        go_simp
        have p6 := cell_up BE.out p5
        refine hK.out _ _ ?_ (fun hHeld => ?_)
        · exact p6
        clear hK K
        try simp only [Act.put, List.setIfInBounds_toArray, List.set_cons_zero, List.set_cons_succ]
        refine comeN5 (by kernel_rfl) (by rfl) (fun K hK => ?_)
        refine wp_append_own _ (.tmp 39) (.tmp 43) 27 rfl (w3.heap.size + 1) 51 rj (.agg #[.int .i64 0, .int .i64 0, .int .i64 0]) 3 24 Try.underlying27 Hj.out Hy0.out Hy1.out Hy2.out rfl (by decide) _ 0 [] rfl own0.out AD (R.usances.length - m) (c5 - m) (usF (R.usances.drop m)) rfl (by rw [usF_len, List.length_drop]) E1.out (usF_one _) (by unfold maxLen; omega) (by omega) ?fb ?_
        case fb => simp
        intro v5 w5 hown5 hgrow5 _
        have hrow : ∀ j, (Value.slice (some (⟨w3.heap.size + 1, 0, none⟩ : Addr)) 0 0).ownBlock = some j → w3.heap.size + 1 ≤ j := fun j hj => (own0.out.lt j hj).1
        have BA5 : Hid (Below (w3.heap.size + 1) (w3.alloc (.cells #[.slice a0 R.cur.length c0, .slice a1 R.cities.length c1, .slice a2 R.groups.length c2, .slice a3 R.firms.length c3, .slice a4 R.orders.length c4, .slice (some ⟨b, off, none⟩) R.usances.length c5, .slice a6 R.rates.length c6, .slice a7 R.halts.length c7] 31)) w5) := by
          have h := (BE.out.mono (Nat.le_of_eq ZZ.out.symm)).grown hgrow5 (by simp) hrow
          exact h
        have BW5 : Hid (Below w3.heap.size w3 w5) := (BX.out).trans (BA5.out.mono (Nat.le_succ _))
        have p7 : w5.cell? ⟨w.heap.size, 5, none⟩ = some (.slice (some ⟨b, off, none⟩) R.usances.length c5) := cell_up BW5.out RB3.out.b5
        have hown5' : w5.ownsRow (w3.heap.size + 1) 51 3 v5 (0 + (R.usances.length - m)) (usF (R.usances.drop m)) := by simpa using hown5
        have HO5 := Lib.hid hown5'
        have E2 := Lib.hid (fun (j : Nat) (v : Value) (hv : (usF (R.usances.take m))[j]? = some v) => cell_up' BW5.out (HD2.out j v hv))
        clear hown5 hgrow5 hrow hown5' own0 E1

        refine hK.out _ _ ?_ (fun hHeld => ?_)
        · exact p7
        clear hK K
        try simp only [Act.put, List.setIfInBounds_toArray, List.set_cons_zero, List.set_cons_succ]
        refine comeN10 (by kernel_rfl) (by rfl) (fun K hK => ?_)
        refine wp_append_own _ (.tmp 44) (.tmp 48) 27 rfl (w3.heap.size + 1) 51 rj (.agg #[.int .i64 0, .int .i64 0, .int .i64 0]) 3 24 Try.underlying27 Hj.out Hy0.out Hy1.out Hy2.out rfl (by decide) v5 (0 + (R.usances.length - m)) (usF (R.usances.drop m)) rfl HO5.out ⟨b, off, none⟩ m c5 (usF (R.usances.take m)) rfl (by rw [usF_len, List.length_take]; omega) E2.out (usF_one _) (by unfold maxLen; omega) (by omega) ?fb ?_
        case fb => have := BA5.out.size; rw [ZZ.out] at this; exact this
        intro v6 w6 hown6 hgrow6 _
        have hrow : ∀ j, v5.ownBlock = some j → w3.heap.size + 1 ≤ j := fun j hj => (HO5.out.lt j hj).1
        have BA6 : Hid (Below (w3.heap.size + 1) (w3.alloc (.cells #[.slice a0 R.cur.length c0, .slice a1 R.cities.length c1, .slice a2 R.groups.length c2, .slice a3 R.firms.length c3, .slice a4 R.orders.length c4, .slice (some ⟨b, off, none⟩) R.usances.length c5, .slice a6 R.rates.length c6, .slice a7 R.halts.length c7] 31)) w6) := BA5.out.grown hgrow6 (by have := BA5.out.size; rw [ZZ.out] at this; exact this) hrow
        have BW6 : Hid (Below w3.heap.size w3 w6) := (BX.out).trans (BA6.out.mono (Nat.le_succ _))
        have p8 : w6.cell? ⟨w.heap.size, 5, none⟩ = some (.slice (some ⟨b, off, none⟩) R.usances.length c5) := cell_up BW6.out RB3.out.b5
        rw [← usF_app] at hown6
        have hl6 : 0 + (R.usances.length - m) + m = (R.usances.drop m ++ R.usances.take m).length := by rw [List.length_append, List.length_drop, List.length_take]; omega
        obtain ⟨hat, a5', c5', hv6⟩ := own_us hown6 hl6
        rw [show (R.usances.drop m ++ R.usances.take m).length = R.usances.length from turn_len (R := R) (f := m)] at hv6
        subst hv6
        have HAT := Lib.hid hat
        have HO6 := Lib.hid hown6
        clear hown6 hgrow6 hrow hat E2

        refine hK.out _ _ ?_ (fun hHeld => ?_)
        · exact p8
        clear hK K
        try simp only [Act.put, List.setIfInBounds_toArray, List.set_cons_zero, List.set_cons_succ]
        refine takeN11 (v := ?_) (by kernel_rfl) (by kernel_rfl) (by kernel_rfl) (fun _ _ _ h => h) (by rfl) ?_ (by assumption) ?_
        rotate_left
        · intro wz hSw
          try dsimp only at hSw
          go_simp
          try with_reducible rfl
        try simp only [Act.put, List.setIfInBounds_toArray, List.set_cons_zero, List.set_cons_succ]
        refine comeN12 (by kernel_rfl) (by rfl) (fun K hK => ?_)
        have hx : ∀ i : Nat, w6.cell? ⟨w3.heap.size, i, none⟩ = (w3.alloc (.cells #[.slice a0 R.cur.length c0, .slice a1 R.cities.length c1, .slice a2 R.groups.length c2, .slice a3 R.firms.length c3, .slice a4 R.orders.length c4, .slice (some ⟨b, off, none⟩) R.usances.length c5, .slice a6 R.rates.length c6, .slice a7 R.halts.length c7] 31)).cell? ⟨w3.heap.size, i, none⟩ := fun i => BA6.out.cell (p := ⟨w3.heap.size, i, none⟩) (Nat.lt_succ_self _)
        have hx5 : w6.cell? ⟨w3.heap.size, 5, none⟩ = some (.slice (some ⟨b, off, none⟩) R.usances.length c5) := by rw [hx, World.cell?_alloc_new]; rfl
        have fx5 : w6.frozen? ⟨w3.heap.size, 5, none⟩ = false := by rw [BA6.out.frozen (p := ⟨w3.heap.size, 5, none⟩) (Nat.lt_succ_self _)]; simp
        have bs : Below w3.heap.size w3 (w6.setCell ⟨w3.heap.size, 5, none⟩ (.slice a5' R.usances.length c5')) := below_set BW6.out (p := ⟨w3.heap.size, 5, none⟩) (Nat.le_refl _) _
        have p9 : (w6.setCell ⟨w3.heap.size, 5, none⟩ (.slice a5' R.usances.length c5')).cell? ⟨w.heap.size, 5, none⟩ = some (.slice (some ⟨b, off, none⟩) R.usances.length c5) := cell_up bs RB3.out.b5
        go_simp
        refine hK.out _ _ ?_ (fun hHeld => ?_)
        · exact p9
        clear hK K
        try simp only [Act.put, List.setIfInBounds_toArray, List.set_cons_zero, List.set_cons_succ]
        refine wpAnyH_done (by kernel_rfl) ?_ _
        clear hHeld
        have HT : Hid (TurnRel w w3 m a0 a1 a2 a3 a4 a6 a7 c0 c1 c2 c3 c4 c6 c7 R (w6.setCell ⟨w3.heap.size, 5, none⟩ (.slice a5' R.usances.length c5'))) := by
          refine ⟨a5', c5', ⟨?_, ?_, ?_, ?_, ?_, World.cell?_setCell_same _ _ _ hx5, ?_, ?_⟩, ?_, bs⟩
          · rw [World.cell?_setCell_other _ _ _ _ (by intro e; injection e with _ e _; exact absurd e (by decide)), hx, World.cell?_alloc_new]; rfl
          · rw [World.cell?_setCell_other _ _ _ _ (by intro e; injection e with _ e _; exact absurd e (by decide)), hx, World.cell?_alloc_new]; rfl
          · rw [World.cell?_setCell_other _ _ _ _ (by intro e; injection e with _ e _; exact absurd e (by decide)), hx, World.cell?_alloc_new]; rfl
          · rw [World.cell?_setCell_other _ _ _ _ (by intro e; injection e with _ e _; exact absurd e (by decide)), hx, World.cell?_alloc_new]; rfl
          · rw [World.cell?_setCell_other _ _ _ _ (by intro e; injection e with _ e _; exact absurd e (by decide)), hx, World.cell?_alloc_new]; rfl
          · rw [World.cell?_setCell_other _ _ _ _ (by intro e; injection e with _ e _; exact absurd e (by decide)), hx, World.cell?_alloc_new]; rfl
          · rw [World.cell?_setCell_other _ _ _ _ (by intro e; injection e with _ e _; exact absurd e (by decide)), hx, World.cell?_alloc_new]; rfl
          · have h := HAT.out
            rw [show (R.usances.drop m ++ R.usances.take m) = (turnR R m).usances from rfl] at h
            exact us_far h HO6.out
        go_wp2_with fail
        go_meet
        exact HT.out
    case rest =>
      have p9 := 0
      obtain ⟨a5', c5', hTB, hUT, b4⟩ := hcut
      obtain ⟨w4, hw4⟩ : ∃ w4, wc = w4 := ⟨_, rfl⟩
      subst hw4
      clear p9
      have B4 := Lib.hid (chain B3.out b4)
      have RB4 := Lib.hid (RB3.out.next b4)
      have TB4 := Lib.hid hTB
      have UT4 := Lib.hid hUT
      clear b4 hTB hUT y0 y1 y2 y3 y4 y5 y6 y7
      rcases us_cases HCK.out m a b with ⟨u, hu, hab, h1, h2⟩ | ⟨hno, h1, h2⟩
      · have HU1 := Lib.hid h1
        have HU2 := Lib.hid h2
        have HY := Lib.hid (any_yes hu hab)
        clear h1 h2 hu hab
        have y0 := RB4.out.b0
        have y1 := RB4.out.b1
        have y2 := RB4.out.b2
        have y3 := RB4.out.b3
        have y4 := RB4.out.b4
        have y5 := RB4.out.b5
        have y6 := RB4.out.b6
        have y7 := RB4.out.b7
        go_wp2_with fail
        refine (Usance_x a b _ (HR.out.next B4.out) HFT.out).mono ?_
        rintro r w5 ⟨rfl, bs⟩
        have B5 := Lib.hid (chain B4.out bs)
        have RB5 := Lib.hid (RB4.out.next bs)
        have TB5 := Lib.hid (TB4.out.next bs)
        have UT5 := Lib.hid (UT4.out.next bs)
        clear bs
        clear y0 y1 y2 y3 y4 y5 y6 y7
        rw [HU1.out]
        have t0 := TB5.out.b0
        have t1 := TB5.out.b1
        have t2 := TB5.out.b2
        have t3 := TB5.out.b3
        have t4 := TB5.out.b4
        have t5 := TB5.out.b5
        have t6 := TB5.out.b6
        have t7 := TB5.out.b7
        go_wp2_with fail
        refine (turnUs_x a b _ (turn_rs (HR.out.next B5.out) UT5.out) HFT.out).mono ?_
        rintro r w6 ⟨rfl, bs⟩
        have B6 := Lib.hid (chain B5.out bs)
        have RB6 := Lib.hid (RB5.out.next bs)
        have TB6 := Lib.hid (TB5.out.next bs)
        have UT6 := Lib.hid (UT5.out.next bs)
        clear bs
        clear t0 t1 t2 t3 t4 t5 t6 t7
        rw [HU2.out]
        have y5 := RB6.out.b5
        go_wp2_with fail
        go_loopw [15, 16] (fun f i wr => ∃ k : Nat, k ≤ R.usances.length ∧ i = .int .i64 (k : Int) ∧ f = .bool ((R.usances.take k).any (eqU a b (u.days))) ∧ w6 = wr) (fun _ i _ => R.usances.length - (intOf i).toNat)
        case atStart => exact ⟨0, Nat.zero_le _, rfl, rfl, rfl⟩
        case round =>
          obtain ⟨k, hk, rfl, rfl, rfl⟩ := hrel
          have k0 : (0 : Int) ≤ (k : Int) := by omega
          have hsz : R.usances.length ≤ 9223372036854775807 := HFT.out.usances
          by_cases cl : k < R.usances.length
          case neg =>
            have kc : ¬ (k : Int) < (R.usances.length : Int) := by omega
            rw [List.take_of_length_le (by omega), HY.out]
            have t0 := TB6.out.b0
            have t1 := TB6.out.b1
            have t2 := TB6.out.b2
            have t3 := TB6.out.b3
            have t4 := TB6.out.b4
            have t5 := TB6.out.b5
            have t6 := TB6.out.b6
            have t7 := TB6.out.b7
            go_wp2_with fail
            refine (turnCheck_x _ (turn_rs (HR.out.next B6.out) UT6.out) HFT.out).mono ?_
            rintro r w7 ⟨rfl, bs⟩
            have B7 := Lib.hid (chain B6.out bs)
            have RB7 := Lib.hid (RB6.out.next bs)
            clear bs
            rw [TZ.out]
            go_wp2_with fail
            go_ret
            exact ⟨rfl, B7.out⟩
          case pos =>
            have kc : (k : Int) < (R.usances.length : Int) := by omega
            obtain ⟨x, hx⟩ : ∃ x, R.usances[k]? = some x := ⟨_, List.getElem?_eq_getElem cl⟩
            obtain ⟨bb, off, ea, hb, hc⟩ := (HR.out.next B6.out).usances.at hx
            subst ea
            have t0 : w6.cell? ⟨bb, off + k * 3, none⟩ = some (.int .i64 x.fr) := hc 0 _ rfl
            have t1 : w6.cell? ⟨bb, off + k * 3 + 1, none⟩ = some (.int .i64 x.to) := hc 1 _ rfl
            have t2 : w6.cell? ⟨bb, off + k * 3 + 2, none⟩ = some (.int .i64 x.days) := hc 2 _ rfl
            have HA := Lib.hid (any_take (a := a) (b := b) (d := u.days) hx)
            clear hx hc
            cases ef : (R.usances.take k).any (eqU a b (u.days)) with
            | true =>
              have HF : Hid ((R.usances.take (k + 1)).any (eqU a b (u.days)) = true) := by show _ = _; rw [HA.out, ef]; rfl
              clear ef
              go_wp2_with fail
              go_roundw
              case rel => exact ⟨k + 1, by omega, by congr 1, by rw [HF.out], by first | rfl | trivial⟩
              case measure => simp [intOf]; omega
            | false =>
              have HF : Hid ((R.usances.take (k + 1)).any (eqU a b (u.days)) = eqU a b (u.days) x) := by show _ = _; rw [HA.out, ef]; rfl
              clear ef
              by_cases g1 : x.fr = a
              · have e1 : (x.fr == a) = true := bt g1
                by_cases g2 : x.to = b
                · have e2 : (x.to == b) = true := bt g2
                  by_cases g3 : x.days = u.days
                  · have e3 : (x.days == u.days) = true := bt g3
                    have HE : Hid (eqU a b (u.days) x = true) := by show _ = _; unfold eqU; exact decide_eq_true ⟨g1, g2, g3⟩
                    clear g1 g2 g3
                    go_wp2_with fail
                    go_roundw
                    case rel => exact ⟨k + 1, by omega, by congr 1, by rw [HF.out, HE.out], by first | rfl | trivial⟩
                    case measure => simp [intOf]; omega
                  · have e3 : (x.days == u.days) = false := bf g3
                    have HE : Hid (eqU a b (u.days) x = false) := by show _ = _; unfold eqU; exact decide_eq_false (fun h => by first | exact g1 h.1 | exact g2 h.2.1 | exact g3 h.2.2)
                    clear g1 g2 g3
                    go_wp2_with fail
                    go_roundw
                    case rel => exact ⟨k + 1, by omega, by congr 1, by rw [HF.out, HE.out], by first | rfl | trivial⟩
                    case measure => simp [intOf]; omega
                · have e2 : (x.to == b) = false := bf g2
                  have HE : Hid (eqU a b (u.days) x = false) := by show _ = _; unfold eqU; exact decide_eq_false (fun h => by first | exact g1 h.1 | exact g2 h.2.1 | exact g3 h.2.2)
                  clear g1 g2
                  go_wp2_with fail
                  go_roundw
                  case rel => exact ⟨k + 1, by omega, by congr 1, by rw [HF.out, HE.out], by first | rfl | trivial⟩
                  case measure => simp [intOf]; omega
              · have e1 : (x.fr == a) = false := bf g1
                have HE : Hid (eqU a b (u.days) x = false) := by show _ = _; unfold eqU; exact decide_eq_false (fun h => by first | exact g1 h.1 | exact g2 h.2.1 | exact g3 h.2.2)
                clear g1
                go_wp2_with fail
                go_roundw
                case rel => exact ⟨k + 1, by omega, by congr 1, by rw [HF.out, HE.out], by first | rfl | trivial⟩
                case measure => simp [intOf]; omega
      · have HU1 := Lib.hid h1
        have HU2 := Lib.hid h2
        have HY := Lib.hid (any_no (d := 0) hno)
        clear h1 h2 hno
        have y0 := RB4.out.b0
        have y1 := RB4.out.b1
        have y2 := RB4.out.b2
        have y3 := RB4.out.b3
        have y4 := RB4.out.b4
        have y5 := RB4.out.b5
        have y6 := RB4.out.b6
        have y7 := RB4.out.b7
        go_wp2_with fail
        refine (Usance_x a b _ (HR.out.next B4.out) HFT.out).mono ?_
        rintro r w5 ⟨rfl, bs⟩
        have B5 := Lib.hid (chain B4.out bs)
        have RB5 := Lib.hid (RB4.out.next bs)
        have TB5 := Lib.hid (TB4.out.next bs)
        have UT5 := Lib.hid (UT4.out.next bs)
        clear bs
        clear y0 y1 y2 y3 y4 y5 y6 y7
        rw [HU1.out]
        have t0 := TB5.out.b0
        have t1 := TB5.out.b1
        have t2 := TB5.out.b2
        have t3 := TB5.out.b3
        have t4 := TB5.out.b4
        have t5 := TB5.out.b5
        have t6 := TB5.out.b6
        have t7 := TB5.out.b7
        go_wp2_with fail
        refine (turnUs_x a b _ (turn_rs (HR.out.next B5.out) UT5.out) HFT.out).mono ?_
        rintro r w6 ⟨rfl, bs⟩
        have B6 := Lib.hid (chain B5.out bs)
        have RB6 := Lib.hid (RB5.out.next bs)
        have TB6 := Lib.hid (TB5.out.next bs)
        have UT6 := Lib.hid (UT5.out.next bs)
        clear bs
        clear t0 t1 t2 t3 t4 t5 t6 t7
        rw [HU2.out]
        have y5 := RB6.out.b5
        go_wp2_with fail
        go_loopw [15, 16] (fun f i wr => ∃ k : Nat, k ≤ R.usances.length ∧ i = .int .i64 (k : Int) ∧ f = .bool ((R.usances.take k).any (eqU a b (0))) ∧ w6 = wr) (fun _ i _ => R.usances.length - (intOf i).toNat)
        case atStart => exact ⟨0, Nat.zero_le _, rfl, rfl, rfl⟩
        case round =>
          obtain ⟨k, hk, rfl, rfl, rfl⟩ := hrel
          have k0 : (0 : Int) ≤ (k : Int) := by omega
          have hsz : R.usances.length ≤ 9223372036854775807 := HFT.out.usances
          by_cases cl : k < R.usances.length
          case neg =>
            have kc : ¬ (k : Int) < (R.usances.length : Int) := by omega
            rw [List.take_of_length_le (by omega), HY.out]
            have t0 := TB6.out.b0
            have t1 := TB6.out.b1
            have t2 := TB6.out.b2
            have t3 := TB6.out.b3
            have t4 := TB6.out.b4
            have t5 := TB6.out.b5
            have t6 := TB6.out.b6
            have t7 := TB6.out.b7
            go_wp2_with fail
            refine (turnCheck_x _ (turn_rs (HR.out.next B6.out) UT6.out) HFT.out).mono ?_
            rintro r w7 ⟨rfl, bs⟩
            have B7 := Lib.hid (chain B6.out bs)
            have RB7 := Lib.hid (RB6.out.next bs)
            clear bs
            rw [TZ.out]
            go_wp2_with fail
            go_ret
            exact ⟨rfl, B7.out⟩
          case pos =>
            have kc : (k : Int) < (R.usances.length : Int) := by omega
            obtain ⟨x, hx⟩ : ∃ x, R.usances[k]? = some x := ⟨_, List.getElem?_eq_getElem cl⟩
            obtain ⟨bb, off, ea, hb, hc⟩ := (HR.out.next B6.out).usances.at hx
            subst ea
            have t0 : w6.cell? ⟨bb, off + k * 3, none⟩ = some (.int .i64 x.fr) := hc 0 _ rfl
            have t1 : w6.cell? ⟨bb, off + k * 3 + 1, none⟩ = some (.int .i64 x.to) := hc 1 _ rfl
            have t2 : w6.cell? ⟨bb, off + k * 3 + 2, none⟩ = some (.int .i64 x.days) := hc 2 _ rfl
            have HA := Lib.hid (any_take (a := a) (b := b) (d := 0) hx)
            clear hx hc
            cases ef : (R.usances.take k).any (eqU a b (0)) with
            | true =>
              have HF : Hid ((R.usances.take (k + 1)).any (eqU a b (0)) = true) := by show _ = _; rw [HA.out, ef]; rfl
              clear ef
              go_wp2_with fail
              go_roundw
              case rel => exact ⟨k + 1, by omega, by congr 1, by rw [HF.out], by first | rfl | trivial⟩
              case measure => simp [intOf]; omega
            | false =>
              have HF : Hid ((R.usances.take (k + 1)).any (eqU a b (0)) = eqU a b (0) x) := by show _ = _; rw [HA.out, ef]; rfl
              clear ef
              by_cases g1 : x.fr = a
              · have e1 : (x.fr == a) = true := bt g1
                by_cases g2 : x.to = b
                · have e2 : (x.to == b) = true := bt g2
                  by_cases g3 : x.days = 0
                  · have e3 : (x.days == 0) = true := bt g3
                    have HE : Hid (eqU a b (0) x = true) := by show _ = _; unfold eqU; exact decide_eq_true ⟨g1, g2, g3⟩
                    clear g1 g2 g3
                    go_wp2_with fail
                    go_roundw
                    case rel => exact ⟨k + 1, by omega, by congr 1, by rw [HF.out, HE.out], by first | rfl | trivial⟩
                    case measure => simp [intOf]; omega
                  · have e3 : (x.days == 0) = false := bf g3
                    have HE : Hid (eqU a b (0) x = false) := by show _ = _; unfold eqU; exact decide_eq_false (fun h => by first | exact g1 h.1 | exact g2 h.2.1 | exact g3 h.2.2)
                    clear g1 g2 g3
                    go_wp2_with fail
                    go_roundw
                    case rel => exact ⟨k + 1, by omega, by congr 1, by rw [HF.out, HE.out], by first | rfl | trivial⟩
                    case measure => simp [intOf]; omega
                · have e2 : (x.to == b) = false := bf g2
                  have HE : Hid (eqU a b (0) x = false) := by show _ = _; unfold eqU; exact decide_eq_false (fun h => by first | exact g1 h.1 | exact g2 h.2.1 | exact g3 h.2.2)
                  clear g1 g2
                  go_wp2_with fail
                  go_roundw
                  case rel => exact ⟨k + 1, by omega, by congr 1, by rw [HF.out, HE.out], by first | rfl | trivial⟩
                  case measure => simp [intOf]; omega
              · have e1 : (x.fr == a) = false := bf g1
                have HE : Hid (eqU a b (0) x = false) := by show _ = _; unfold eqU; exact decide_eq_false (fun h => by first | exact g1 h.1 | exact g2 h.2.1 | exact g3 h.2.2)
                clear g1
                go_wp2_with fail
                go_roundw
                case rel => exact ⟨k + 1, by omega, by congr 1, by rw [HF.out, HE.out], by first | rfl | trivial⟩
                case measure => simp [intOf]; omega

end Go.Proofs.Ytagdikghpiiabaa
