/-
  A list of disks in memory: appended to by the law itself (JournalKeeps).
-/
import Derived.Test.YtemldlhhlneleaaDoorJlG
namespace Go.Proofs.YtemldlhhlneleaaDoor.Jn
open Go.RowKit Dk Wi

def dC (q : Value × Value) : List Value := [q.1, q.2, .int .i64 (-1), .bool false]
def dsC (l : List (Value × Value)) : List Value := (l.map dC).flatten
theorem dsC_snoc (l : List (Value × Value)) (q : Value × Value) : dsC (l ++ [q]) = dsC l ++ dC q := by simp [dsC]
theorem dsC_len : ∀ l : List (Value × Value), (dsC l).length = l.length * 4
  | [] => rfl
  | q :: t => by
    have := dsC_len t
    unfold dsC at this ⊢
    rw [List.map_cons, List.flatten_cons, List.length_append, this, List.length_cons]
    show 4 + _ = _
    omega
theorem dsC_get : ∀ (l : List (Value × Value)) (j i : Nat) (q : Value × Value), l[j]? = some q → i < 4 → (dsC l)[j * 4 + i]? = (dC q)[i]?
  | [], j, i, q, h, _ => by simp at h
  | p :: t, 0, i, q, h, hi => by
    simp only [List.getElem?_cons_zero, Option.some.injEq] at h
    subst h
    unfold dsC
    rw [List.map_cons, List.flatten_cons, Nat.zero_mul, Nat.zero_add, List.getElem?_append_left (by show i < 4; exact hi)]
  | p :: t, j + 1, i, q, h, hi => by
    have ih := dsC_get t j i q (by simpa using h) hi
    unfold dsC at ih ⊢
    rw [List.map_cons, List.flatten_cons, List.getElem?_append_right (by show 4 ≤ _; omega)]
    rw [← ih]
    congr 1
    show (j + 1) * 4 + i - 4 = _
    omega
/-- a row of disks, in a block that holds no string -/
structure DRow (W : World) (g cap : Nat) (l : List (Value × Value)) : Prop where
  ex : ∃ cur, W.heap[g]? = some (.cells cur 27 (0, 0)) ∧ cur.size = cap * 4 ∧ cur.toList.take (l.length * 4) = dsC l ∧ ∀ s, Value.string s ∉ cur.toList
  le : l.length ≤ cap
  max : cap ≤ maxLen
theorem DRow.lt {W : World} {g cap : Nat} {l : List (Value × Value)} (h : DRow W g cap l) : g < W.heap.size := by
  obtain ⟨cur, h1, -⟩ := h.ex
  exact (Array.getElem?_eq_some_iff.1 h1).1
theorem DRow.of {W W' : World} {g cap : Nat} {l : List (Value × Value)} (h : DRow W g cap l) (hb : W'.heap[g]? = W.heap[g]?) : DRow W' g cap l := by
  obtain ⟨cur, h1, h2⟩ := h.ex
  exact ⟨⟨cur, by rw [hb]; exact h1, h2⟩, h.le, h.max⟩
theorem DRow.next {W W' : World} {g cap : Nat} {l : List (Value × Value)} (h : DRow W g cap l) (hb : Below W.heap.size W W') : DRow W' g cap l := h.of (hb.block g h.lt)
theorem set_block (W : World) {g k o : Nat} (v : Value) (h : k ≠ g) : (W.setCell ⟨g, o, none⟩ v).heap[k]? = W.heap[k]? := by
  simp [World.setCell, Array.getElem?_modify, Ne.symm h]
theorem DRow.put {W : World} {g cap g6 : Nat} {l : List (Value × Value)} (h : DRow W g cap l) (hne : g ≠ g6) (sv pv : Value) (i : Int) (b : Bool) : DRow (put4 W g6 sv pv i b) g cap l :=
  h.of (by rw [set_block _ _ hne, set_block _ _ hne, set_block _ _ hne, set_block _ _ hne])
theorem DRow.cell {W : World} {g cap j i : Nat} {l : List (Value × Value)} {q : Value × Value} (h : DRow W g cap l) (hq : l[j]? = some q) (hi : i < 4) : W.cell? ⟨g, j * 4 + i, none⟩ = (dC q)[i]? := by
  obtain ⟨cur, h1, h2, h3, -⟩ := h.ex
  have hj := (List.getElem?_eq_some_iff.1 hq).1
  have e : W.cell? ⟨g, j * 4 + i, none⟩ = cur[j * 4 + i]? := by simp [World.cell?, h1]
  rw [e, ← dsC_get l j i q hq hi, ← h3, List.getElem?_take_of_lt (by omega), Array.getElem?_toList]
theorem DRow.str {W : World} {g cap b o : Nat} {l : List (Value × Value)} {s : B} (h : DRow W g cap l) (hc : W.cell? ⟨b, o, none⟩ = some (.string s)) : b ≠ g := by
  intro e
  subst e
  obtain ⟨cur, h1, -, -, h4⟩ := h.ex
  have e : W.cell? ⟨b, o, none⟩ = cur[o]? := by simp [World.cell?, h1]
  rw [e] at hc
  exact h4 s (by rw [← Array.mem_def]; exact Array.mem_of_getElem? hc)
theorem DRow.new (W : World) (s p : Value) (hs : ∀ b, s ≠ .string b) (hp : ∀ b, p ≠ .string b) : DRow (W.alloc (.cells #[s, p, .int .i64 (-1), .bool false] 27)) W.heap.size 1 [(s, p)] := by
  refine ⟨⟨#[s, p, .int .i64 (-1), .bool false], ?_, rfl, rfl, fun b hb => ?_⟩, Nat.le_refl _, by unfold maxLen; decide⟩
  · show (W.heap.push _)[W.heap.size]? = _
    simp
  · simp only [List.mem_cons, List.not_mem_nil, or_false] at hb
    rcases hb with hb | hb | hb | hb
    · exact hs b hb.symm
    · exact hp b hb.symm
    · cases hb
    · cases hb
/-- what holds strings lies outside the row -/
theorem strs_grown {W W' : World} {g cap : Nat} {m : List (Value × Value)} {v : Value} {l : List B} (h : SAt W v (strs l)) (hr : DRow W g cap m) (hg : W.grownBy W' (some g)) : SAt W' v (strs l) := by
  obtain ⟨a, c, rfl, h1, h2⟩ := h
  refine ⟨a, c, rfl, h1, fun j x hx => ?_⟩
  obtain ⟨b, off, e, hlt, hc⟩ := h2 j x hx
  rw [List.getElem?_map] at hx
  obtain ⟨s, -, rfl⟩ := Option.map_eq_some_iff.1 hx
  have hb := hr.str hc
  exact ⟨b, off, e, Nat.lt_of_lt_of_le hlt hg.size, hg.cell hc (by intro k; exact hb (Option.some.inj k))⟩
theorem DAt.grown {W W' : World} {g cap : Nat} {m : List (Value × Value)} {v : Value} {d : D} (h : DAt W v d) (hp : d.pend = []) (hr : DRow W g cap m) (hg : W.grownBy W' (some g)) : DAt W' v d := by
  obtain ⟨sv, pv, e, h1, h2⟩ := h
  refine ⟨sv, pv, e, strs_grown h1 hr hg, ?_⟩
  rw [hp] at h2 ⊢
  obtain ⟨a, c, rfl, h3, -⟩ := h2
  exact ⟨a, c, rfl, h3, fun j p hp => by simp at hp⟩
theorem Bx.grown {sv pv : Value} {i : Int} {b : Bool} {g6 g : Nat} {W W' : World} (h : Bx sv pv i b g6 W) (hne : g6 ≠ g) (hg : W.grownBy W' (some g)) : Bx sv pv i b g6 W' := by
  have e : W'.heap[g6]? = W.heap[g6]? := hg.block g6 h.lt (by intro k; exact hne (Option.some.inj k))
  have ec : ∀ o, W'.cell? ⟨g6, o, none⟩ = W.cell? ⟨g6, o, none⟩ := fun o => World.cell?_of_block e
  exact ⟨Nat.lt_of_lt_of_le h.lt hg.size, by rw [ec]; exact h.c0, by rw [ec]; exact h.c1, by rw [ec]; exact h.c2, by rw [ec]; exact h.c3, fun o => by rw [World.frozen?_of_block (a := ⟨g6, o, none⟩) e]; exact h.fz o⟩

theorem infoD : (Tryd.prog.info? 27).map (fun i => (i.zero, i.size, i.bytes)) = some (some (.agg #[.slice none 0 0, .slice none 0 0, .int .i64 0, .bool false]), 4, 64) := by kernel_rfl
theorem mem_zeroCells {z : Array Value} {n : Nat} {u : Value} (h : u ∈ (Builtin.zeroCells z n).toList) : u ∈ z.toList ∨ z.size = 0 := by
  unfold Builtin.zeroCells at h
  simp only [Array.toList_map, List.mem_map] at h
  obtain ⟨i, hi, rfl⟩ := h
  by_cases c : z.size = 0
  · exact .inr c
  · left
    have hlt : i % z.size < z.size := Nat.mod_lt _ (by omega)
    rw [getElem!_pos z (i % z.size) hlt]
    rw [← Array.mem_def]
    exact Array.getElem_mem hlt
theorem run_append_ds (w : World) (ty : TypeId) (g cap : Nat) (l : List (Value × Value)) (h : DRow w g cap l) (a : Addr) (c : Nat) (q : Value × Value) (hn : ∀ j u, (dC q)[j]? = some u → w.cell? (a.add j) = some u) (h1 : ∀ u ∈ dC q, u.oneCell' = true) (hq : ∀ s, Value.string s ∉ dC q) (hl : l.length ≤ 1000) :
    ∃ g' cap' w', (Builtin.append_ #[51, 51] ty #[.slice (some ⟨g, 0, none⟩) l.length cap, .slice (some a) 1 c]).run Tryd.prog w = .ok (.slice (some ⟨g', 0, none⟩) (l.length + 1) cap') w' ∧ DRow w' g' cap' (l ++ [q]) ∧ w.grownBy w' (some g) ∧ (g' = g ∨ g' = w.heap.size) := by
  obtain ⟨i, hi, hz, hs, hb⟩ := info_parts infoD
  obtain ⟨cur, hg, hcs, htake, hstr⟩ := h.ex
  have hlen := dsC_len l
  have h4 : (dC q).length = 1 * i.size := by rw [hs]; rfl
  by_cases hroom : l.length + 1 ≤ cap
  · have hr := run_append_room (P := Tryd.prog) w 51 ty 27 i Tryd.underlying51 hi g l.length cap cur hg a 1 c (dC q) h4 hn h1 hroom (by rw [hs, hcs]; show _ + 4 ≤ _; omega)
    refine ⟨g, cap, _, hr, ⟨⟨_, setRow_heap w g cur _ _ _ hg, ?_, ?_, ?_⟩, by rw [List.length_append]; exact hroom, h.max⟩, ⟨rfl, rfl, rfl, by simp, fun k _ hk => setRow_other w g k _ (fun e => hk (by rw [e]))⟩, .inl rfl⟩
    · simp only [List.size_toArray, List.length_append, List.length_take, List.length_drop, Array.length_toList, hs]
      show _ + 4 + (_ - (_ + 4)) = _
      omega
    · rw [hs, htake, dsC_snoc, List.length_append, List.length_singleton]
      rw [List.take_append_of_le_length (by rw [List.length_append, hlen]; show _ ≤ _ + 4; omega), List.take_of_length_le (by rw [List.length_append, hlen]; show _ + 4 ≤ _; omega)]
    · intro s hm
      simp only [List.mem_append] at hm
      rcases hm with (hm | hm) | hm
      · exact hstr s (List.mem_of_mem_take hm)
      · exact hq s hm
      · exact hstr s (List.mem_of_mem_drop hm)
  · have hle := h.le
    obtain rfl : cap = l.length := by omega
    have hold : ∀ j u, (dsC l)[j]? = some u → w.cell? ((⟨g, 0, none⟩ : Addr).add j) = some u := by
      intro j u hu
      have e : w.cell? ((⟨g, 0, none⟩ : Addr).add j) = cur[j]? := by rw [add_plain]; simp [World.cell?, hg]
      rw [e, ← Array.getElem?_toList]
      rw [← htake] at hu
      have hj := (List.getElem?_eq_some_iff.1 hu).1
      rw [List.length_take] at hj
      rw [List.getElem?_take_of_lt (by omega)] at hu
      exact hu
    have hfit := growslice_fits (need := l.length + 1) (old := l.length) (bytes := i.bytes) (by omega) (by rw [hb]; omega)
    have hr := run_append_grow (P := Tryd.prog) w 51 ty 27 i _ Tryd.underlying51 hi hz ⟨g, 0, none⟩ l.length l.length (dsC l) (by rw [hs]; exact hlen) hold a 1 c (dC q) h4 hn (by omega) (by omega) hfit
    have hge := grownCap_ge w (l.length + 1) l.length 27
    have hcm : grownCap w (l.length + 1) l.length 27 ≤ maxLen := grownCap_le_maxLen w (l.length + 1) l.length 27 (by unfold maxLen; omega)
    refine ⟨w.heap.size, _, _, hr, ⟨⟨_, heap_alloc_new w.drew _, ?_, ?_, ?_⟩, by rw [List.length_append]; exact hge, hcm⟩, ⟨rfl, rfl, rfl, by simp, fun k hk _ => heap_alloc_old w.drew _ hk⟩, .inr rfl⟩
    · simp only [Array.size_append, List.size_toArray, size_zeroCells, hlen]
      show _ + 4 + _ * 4 = _
      omega
    · simp only [Array.toList_append, List.length_append, List.length_singleton]
      rw [dsC_snoc, List.take_append_of_le_length (by rw [List.length_append, hlen]; show _ ≤ _ + 4; omega), List.take_of_length_le (by rw [List.length_append, hlen]; show _ + 4 ≤ _; omega)]
    · intro s hm
      simp only [Array.toList_append, List.mem_append] at hm
      rcases hm with (hm | hm) | hm
      · rw [← htake] at hm
        exact hstr s (List.mem_of_mem_take hm)
      · exact hq s hm
      · rcases mem_zeroCells hm with k | k
        · simp [Value.cells] at k
        · simp [Value.cells] at k

theorem wpList_append_ds {ops : Array Oper} {rest : List Oper} {o : Oper} {a : Act} {w : World} {Q : Exit → Act → World → Prop} (hgd : o.guard = none) (s x : Operand)
    (ho : o.op = .call { callee := .builtin .append, args := #[s, x], argTypes := #[51, 51] })
    (g cap : Nat) (l : List (Value × Value)) (hr : DRow w g cap l) (hs : a.eval s = .slice (some ⟨g, 0, none⟩) l.length cap) (ad : Addr) (c : Nat) (q : Value × Value) (hx : a.eval x = .slice (some ad) 1 c) (hn : ∀ j u, (dC q)[j]? = some u → w.cell? (ad.add j) = some u) (h1 : ∀ u ∈ dC q, u.oneCell' = true) (hq : ∀ s, Value.string s ∉ dC q) (hl : l.length ≤ 1000) (n : Nat) (hln : l.length = n)
    (h : ∀ g' cap' w', DRow w' g' cap' (l ++ [q]) → w.grownBy w' (some g) → (g' = g ∨ g' = w.heap.size) → wpList Tryd.prog ops Q rest (a.put o.dst (.slice (some ⟨g', 0, none⟩) (n + 1) cap')) w') : wpList Tryd.prog ops Q (o :: rest) a w := by
  subst hln
  refine wpList_plain hgd fun K hK => ?_
  obtain ⟨g', cap', w', hrun, h2, h3, h4⟩ := run_append_ds w o.type g cap l hr ad c q hn h1 hq hl
  unfold Oper.wp execOp
  simp only [ho, resolve, invoke, builtin, Sem.run_bind, Sem.run_pure, Result.andThen_ok, List.map_toArray, List.map_cons, List.map_nil, hs, hx, hrun]
  exact hK _ _ (h g' cap' w' h2 h3 h4)

end Go.Proofs.YtemldlhhlneleaaDoor.Jn
