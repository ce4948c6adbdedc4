/-
  The program: perform, tear.
-/
import Derived.Test.YtemldlhhlneleaaDoorProC
import Derived.Test.YtemldlhhlneleaaDoorHand
namespace Go.Proofs.YtemldlhhlneleaaDoor
open Go.RowKit Dk

/-- of what was there, the block g alone has turned -/
structure Only (g : Nat) (w w' : World) : Prop where
  size : w.heap.size ≤ w'.heap.size
  block : ∀ b, b < w.heap.size → b ≠ g → w'.heap[b]? = w.heap[b]?
  bel : ∀ (base : Nat) (W : World), base ≤ g → base ≤ w.heap.size → Below base W w → Below base W w'
theorem Only.refl (g : Nat) (w : World) : Only g w w := ⟨Nat.le_refl _, fun _ _ _ => rfl, fun _ _ _ _ h => h⟩
theorem Only.set {g : Nat} {w w' : World} (h : Only g w w') {p : Addr} (hp : p.block = g) (u : Value) : Only g w (w'.setCell p u) := by
  refine ⟨by simpa using h.size, fun b hb hg => ?_, fun base W hbg hb0 hb => (h.bel base W hbg hb0 hb).setCell (by omega) _⟩
  rw [Below.heap_setCell _ _ _ _ (by rw [hp]; exact hg)]
  exact h.block b hb hg
theorem Only.new {g : Nat} {w w' : World} (h : Only g w w') (o : Obj) : Only g w (w'.alloc o) := by
  have hs := h.size
  refine ⟨by simp; omega, fun b hb hg => ?_, fun base W hbg hb0 hb => (h.bel base W hbg hb0 hb).alloc (by omega) _⟩
  have hk := (Below.new1 (w := w') o).block b (by omega)
  rw [hk]
  exact h.block b hb hg
theorem Only.drew {g : Nat} {w w' : World} (h : Only g w w') : Only g w w'.drew :=
  ⟨h.size, h.block, fun base W hbg hb0 hb => (h.bel base W hbg hb0 hb).drew⟩
theorem Only.cell {g : Nat} {w w' : World} (h : Only g w w') {b o : Nat} (hb : b < w.heap.size) (hg : b ≠ g) : w'.cell? ⟨b, o, none⟩ = w.cell? ⟨b, o, none⟩ := World.cell?_of_block (a := ⟨b, o, none⟩) (h.block b hb hg)
theorem Bx.only {sv pv : Value} {l : Int} {dn : Bool} {b g : Nat} {W W' : World} (h : Bx sv pv l dn b W) (ho : Only g W W') (hg : b ≠ g) : Bx sv pv l dn b W' :=
  ⟨Nat.lt_of_lt_of_le h.lt ho.size, by rw [ho.cell h.lt hg]; exact h.c0, by rw [ho.cell h.lt hg]; exact h.c1, by rw [ho.cell h.lt hg]; exact h.c2, by rw [ho.cell h.lt hg]; exact h.c3,
    fun o => by rw [World.frozen?_of_block (a := ⟨b, o, none⟩) (ho.block b h.lt hg)]; exact h.fz o⟩
/-- writes that lie elsewhere than in g -/
def WNe (w : World) (g : Nat) (a : Option Addr) (p : List (Int × B)) : Prop := ∀ (j : Nat) (q : Int × B), p[j]? = some q → ∃ b off, a = some ⟨b, off, none⟩ ∧ b < w.heap.size ∧ b ≠ g ∧ w.cell? ⟨b, off + j * 2, none⟩ = some (.int .i64 q.1) ∧ w.cell? ⟨b, off + j * 2 + 1, none⟩ = some (.string q.2)
theorem WNe.only {w w' : World} {g : Nat} {a : Option Addr} {p : List (Int × B)} (h : WNe w g a p) (ho : Only g w w') : WNe w' g a p := by
  intro j q hq
  obtain ⟨b, off, e, h1, h2, h3, h4⟩ := h j q hq
  exact ⟨b, off, e, Nat.lt_of_lt_of_le h1 ho.size, h2, by rw [ho.cell h1 h2]; exact h3, by rw [ho.cell h1 h2]; exact h4⟩
theorem WNe.take {w : World} {g : Nat} {a : Option Addr} {p : List (Int × B)} (h : WNe w g a p) (n : Nat) : WNe w g a (p.take n) := by
  intro j q hq
  have hj := (List.getElem?_eq_some_iff.1 hq).1
  rw [List.length_take] at hj
  rw [List.getElem?_take_of_lt (by omega)] at hq
  exact h j q hq
theorem WNe.own {w : World} {base g n : Nat} {T : TypeId} {pa : Option Addr} {pc : Nat} {l : List (Int × B)} (h : w.ownsRow base T 2 (.slice pa n pc) n (wC l)) (hn : n = l.length) (hg : g < base) : WNe w g pa l := by
  obtain ⟨a, c, e, -, h2⟩ := WAt.own h hn
  simp only [Value.slice.injEq] at e
  obtain ⟨rfl, -, -⟩ := e
  intro j q hq
  obtain ⟨b, off, rfl, h3, h4, h5⟩ := h2 j q hq
  have := (h.lt b rfl).1
  exact ⟨b, off, rfl, h3, by omega, h4, h5⟩

def PpRel (g : Nat) (l : List B) (p : List (Int × B)) (w : World) (i : Value) (wr : World) : Prop := ∃ k : Nat, k ≤ p.length ∧ i = .int .i64 (k : Int) ∧ Row wr g (strs (perf l (p.take k))) ∧ Only g w wr

set_option maxHeartbeats 3200000 in
set_option maxRecDepth 100000 in
theorem perform_x (g gc N M c : Nat) (a : Option Addr) (l : List B) (p : List (Int × B)) (w : World) (hr : Row w g (strs l)) (hN : N = l.length) (hM : M = p.length) (hp : WNe w g a p) (hok : ∀ q ∈ p, 0 ≤ q.1 ∧ q.1 < (l.length : Int)) (_hl : l.length ≤ 512) (hpl : p.length ≤ 512) :
    Calls Tryd.prog 77 #[.slice (some ⟨g, 0, none⟩) N gc, .slice a M c] w fun r w' => r = .returned (.tuple #[]) ∧ Row w' g (strs (perf l p)) ∧ Only g w w' := by
  subst hN hM
  have HP := Lib.hid hp
  have HR := Lib.hid hr
  have HOK := Lib.hid hok
  clear hp hr hok
  go_enter Tryd.func77, Tryd.ntmps77
  go_wp2_with fail
  go_loopw [8] (fun i wr => PpRel g l p w i wr) (fun i _ => p.length - (intOf i).toNat)
  case atStart => exact ⟨0, Nat.zero_le _, rfl, HR.out, Only.refl _ _⟩
  case round =>
    obtain ⟨k, hk, rfl, hrow, hon⟩ := hrel
    have RW := Lib.hid hrow
    have ON := Lib.hid hon
    have k0 : (0 : Int) ≤ (k : Int) := by omega
    clear hrow hon
    by_cases cc : k < p.length
    case neg =>
      have cc0 : ¬ (k : Int) < (p.length : Int) := by omega
      have RE : Hid (Row wr g (strs (perf l p))) := by have h := RW.out; rw [List.take_of_length_le (by omega)] at h; exact h
      go_wp2_with fail
      exact bodyPost_end (results_none Tryd.results77 _ _ _) rfl ⟨rfl, RE.out, ON.out⟩
    case pos =>
      have cc0 : (k : Int) < (p.length : Int) := by omega
      obtain ⟨q, hq⟩ : ∃ q, p[k]? = some q := ⟨_, List.getElem?_eq_getElem cc⟩
      have HQ := Lib.hid hq
      obtain ⟨q0, q1⟩ := HOK.out q (List.mem_of_getElem? hq)
      obtain ⟨b, off, rfl, g1, g2, g3, g4⟩ := HP.out.only ON.out k q hq
      obtain ⟨m', t⟩ := q
      simp only at q0 q1 g3 g4
      obtain ⟨m, rfl⟩ := Int.eq_ofNat_of_zero_le q0
      have mN : m < l.length := by omega
      have ml : m < (strs (perf l (p.take k))).length := by rw [strs_len, perf_len]; exact mN
      have r0 : g < wr.heap.size := RW.out.lt
      have r1 := RW.out.c m _ (List.getElem?_eq_getElem ml)
      have r2 := RW.out.fz m ml
      have gn : wr.heap.size ≠ g := by omega
      have RS : Hid (Row ((wr.setCell ⟨g, m, none⟩ (.string t)).alloc (.cells #[.int .i64 (m : Int), .string t] 66)) g (strs (perf l (p.take (k + 1))))) := by
        show Row _ _ _
        rw [perf_next HQ.out, ← strs_set]
        exact Row.next (RW.out.set m (.string t) ml) (Below.new1 _)
      have OS : Hid (Only g w ((wr.setCell ⟨g, m, none⟩ (.string t)).alloc (.cells #[.int .i64 (m : Int), .string t] 66))) := (ON.out.set rfl _).new _
      clear hq
      go_wp2_with fail
      go_roundw
      case rel => exact ⟨k + 1, by omega, by congr 1, RS.out, OS.out⟩
      case measure => simp [intOf]; omega

set_option maxHeartbeats 3200000 in
set_option maxRecDepth 100000 in
theorem tear_x (g gc N m : Nat) (t s0 : B) (l : List B) (w : World) (hr : Row w g (strs l)) (hN : N = l.length) (hm : l[m]? = some s0) (ht : t.size = 16) (hs16 : s0.size = 16) (_hl : l.length ≤ 512) :
    Calls Tryd.prog 78 #[.slice (some ⟨g, 0, none⟩) N gc, .agg #[.int .i64 (m : Int), .string t]] w fun r w' => r = .returned (.tuple #[]) ∧ Row w' g (strs (l.set m (torn t s0))) ∧ Only g w w' := by
  subst hN
  have mN : m < l.length := (List.getElem?_eq_some_iff.1 hm).1
  have mN' : (m : Int) < (l.length : Int) := by omega
  have m0 : (0 : Int) ≤ (m : Int) := by omega
  have gl : g < w.heap.size := hr.lt
  have r1 : w.cell? ⟨g, m, none⟩ = some (.string s0) := hr.c m _ (strs_get hm)
  have r2 : w.frozen? ⟨g, m, none⟩ = false := hr.fz m (by rw [strs_len]; exact mN)
  have k1 : (8 : Int) ≤ (t.size : Int) := by omega
  have k2 : (8 : Int) ≤ (s0.size : Int) := by omega
  have k3 : (t.size : Int) ≤ 16 := by omega
  have k4 : (s0.size : Int) ≤ 16 := by omega
  have gne : w.heap.size ≠ g := by omega
  have T1 : Hid (t.extract 0 8 ++ s0.extract 8 16 = torn t s0) := by show _ = _; unfold torn; rw [hs16]
  have RS : Hid (Row ((w.setCell ⟨g, m, none⟩ (.string (t.extract 0 8 ++ s0.extract 8 16))).alloc (.cells #[.int .i64 (m : Int), .string t] 66)) g (strs (l.set m (torn t s0)))) := by
    show Row _ _ _
    rw [← strs_set, T1.out]
    exact Row.next (hr.set m _ (by rw [strs_len]; exact mN)) (Below.new1 _)
  have OS : Hid (Only g w ((w.setCell ⟨g, m, none⟩ (.string (t.extract 0 8 ++ s0.extract 8 16))).alloc (.cells #[.int .i64 (m : Int), .string t] 66))) := by
    show Only g w _
    exact ((Only.refl g w).set (p := ⟨g, m, none⟩) rfl _).new _
  have n1 : (w.alloc (.cells #[.int .i64 (m : Int), .string t] 66)).cell? ⟨w.heap.size, 0, none⟩ = some (.int .i64 (m : Int)) := by rw [World.cell?_alloc_new]; rfl
  have n2 : (w.alloc (.cells #[.int .i64 (m : Int), .string t] 66)).cell? ⟨w.heap.size, 1, none⟩ = some (.string t) := by rw [World.cell?_alloc_new]; rfl
  have n3 : ((w.setCell ⟨g, m, none⟩ (.string (t.extract 0 8 ++ s0.extract 8 16))).alloc (.cells #[.int .i64 (m : Int), .string t] 66)).cell? ⟨w.heap.size, 0, none⟩ = some (.int .i64 (m : Int)) := cell_here _ _ _ _ (by simp) _ _ rfl
  have n4 : ((w.setCell ⟨g, m, none⟩ (.string (t.extract 0 8 ++ s0.extract 8 16))).alloc (.cells #[.int .i64 (m : Int), .string t] 66)).cell? ⟨w.heap.size, 1, none⟩ = some (.string t) := cell_here _ _ _ _ (by simp) _ _ rfl
  clear hr hm
  go_enter Tryd.func78, Tryd.ntmps78
  go_wp2_with fail
  refine wp_region_held_drew (S := fun w' => w'.cell? ⟨w.heap.size, 0, none⟩ = some (.int .i64 (m : Int)) ∧ w'.cell? ⟨w.heap.size, 1, none⟩ = some (.string t)) (by kernel_rfl) ?_ (fun hHeld => ?_)
  · exact ⟨n1, n2⟩
  refine takeN0 (v := ?_) (by kernel_rfl) (by kernel_rfl) (by kernel_rfl) (fun _ _ _ h => h) (by rfl) ?_ (by assumption) ?_
  rotate_left
  · intro wz hSw
    try dsimp only at hSw
    go_simp
    try with_reducible rfl
  try simp only [Act.put, List.setIfInBounds_toArray, List.set_cons_zero, List.set_cons_succ]
  refine takeN1 (v := ?_) (by kernel_rfl) (by kernel_rfl) (by kernel_rfl) (fun _ _ _ h => h) (by rfl) ?_ (by assumption) ?_
  rotate_left
  · intro wz hSw
    try dsimp only at hSw
    go_simp
    try with_reducible rfl
  try simp only [Act.put, List.setIfInBounds_toArray, List.set_cons_zero, List.set_cons_succ]
  refine takeN2 (v := ?_) (by kernel_rfl) (by kernel_rfl) (by kernel_rfl) (fun _ _ _ h => h) (by rfl) ?_ (by assumption) ?_
  rotate_left
  · intro wz hSw
    try dsimp only at hSw
    go_simp
    try with_reducible rfl
  try simp only [Act.put, List.setIfInBounds_toArray, List.set_cons_zero, List.set_cons_succ]
  refine takeN3 (v := ?_) (by kernel_rfl) (by kernel_rfl) (by kernel_rfl) (fun _ _ _ h => h) (by rfl) ?_ (by assumption) ?_
  rotate_left
  · intro wz hSw
    try dsimp only at hSw
    go_simp
    try with_reducible rfl
  try simp only [Act.put, List.setIfInBounds_toArray, List.set_cons_zero, List.set_cons_succ]
  refine takeN4 (v := ?_) (by kernel_rfl) (by kernel_rfl) (by kernel_rfl) (fun _ _ _ h => h) (by rfl) ?_ (by assumption) ?_
  rotate_left
  · intro wz hSw
    try dsimp only at hSw
    go_simp
    try with_reducible rfl
  try simp only [Act.put, List.setIfInBounds_toArray, List.set_cons_zero, List.set_cons_succ]
  refine takeN5 (v := ?_) (by kernel_rfl) (by kernel_rfl) (by kernel_rfl) (fun _ _ _ h => h) (by rfl) ?_ (by assumption) ?_
  rotate_left
  · intro wz hSw
    try dsimp only at hSw
    go_simp
    try with_reducible rfl
  try simp only [Act.put, List.setIfInBounds_toArray, List.set_cons_zero, List.set_cons_succ]
  refine takeN6 (v := ?_) (by kernel_rfl) (by kernel_rfl) (by kernel_rfl) (fun _ _ _ h => h) (by rfl) ?_ (by assumption) ?_
  rotate_left
  · intro wz hSw
    try dsimp only at hSw
    go_simp
    try with_reducible rfl
  try simp only [Act.put, List.setIfInBounds_toArray, List.set_cons_zero, List.set_cons_succ]
  refine takeN7 (v := ?_) (by kernel_rfl) (by kernel_rfl) (by kernel_rfl) (fun _ _ _ h => h) (by rfl) ?_ (by assumption) ?_
  rotate_left
  · intro wz hSw
    try dsimp only at hSw
    go_simp
    try with_reducible rfl
  try simp only [Act.put, List.setIfInBounds_toArray, List.set_cons_zero, List.set_cons_succ]
  refine takeN8 (v := ?_) (by kernel_rfl) (by kernel_rfl) (by kernel_rfl) (fun _ _ _ h => h) (by rfl) ?_ (by assumption) ?_
  rotate_left
  · intro wz hSw
    try dsimp only at hSw
    go_simp
    try with_reducible rfl
  try simp only [Act.put, List.setIfInBounds_toArray, List.set_cons_zero, List.set_cons_succ]
  refine takeN9 (v := ?_) (by kernel_rfl) (by kernel_rfl) (by kernel_rfl) (fun _ _ _ h => h) (by rfl) ?_ (by assumption) ?_
  rotate_left
  · intro wz hSw
    try dsimp only at hSw
    go_simp
    try with_reducible rfl
  try simp only [Act.put, List.setIfInBounds_toArray, List.set_cons_zero, List.set_cons_succ]
  refine comeN10 (by kernel_rfl) (by rfl) (fun K hK => ?_)
  go_simp
  refine hK.out _ _ ?_ (fun hHeld => ?_)
  · exact ⟨n1, n2⟩
  clear hK K
  try simp only [Act.put, List.setIfInBounds_toArray, List.set_cons_zero, List.set_cons_succ]
  refine takeN11 (v := ?_) (by kernel_rfl) (by kernel_rfl) (by kernel_rfl) (fun _ _ _ h => h) (by rfl) ?_ (by assumption) ?_
  rotate_left
  · intro wz hSw
    try dsimp only at hSw
    go_simp
    try with_reducible rfl
  try simp only [Act.put, List.setIfInBounds_toArray, List.set_cons_zero, List.set_cons_succ]
  refine takeN12 (v := ?_) (by kernel_rfl) (by kernel_rfl) (by kernel_rfl) (fun _ _ _ h => h) (by rfl) ?_ (by assumption) ?_
  rotate_left
  · intro wz hSw
    try dsimp only at hSw
    go_simp
    try with_reducible rfl
  try simp only [Act.put, List.setIfInBounds_toArray, List.set_cons_zero, List.set_cons_succ]
  refine takeN13 (v := ?_) (by kernel_rfl) (by kernel_rfl) (by kernel_rfl) (fun _ _ _ h => h) (by rfl) ?_ (by assumption) ?_
  rotate_left
  · intro wz hSw
    try dsimp only at hSw
    go_simp
    try with_reducible rfl
  try simp only [Act.put, List.setIfInBounds_toArray, List.set_cons_zero, List.set_cons_succ]
  refine comeN14 (by kernel_rfl) (by rfl) (fun K hK => ?_)
  go_simp
  refine hK.out _ _ ?_ (fun hHeld => ?_)
  · exact ⟨n3, n4⟩
  clear hK K
  try simp only [Act.put, List.setIfInBounds_toArray, List.set_cons_zero, List.set_cons_succ]
  refine wpAnyH_done (by kernel_rfl) ?_ _
  clear hHeld n1 n2 n3 n4 r1 r2
  go_wp2_with fail
  exact bodyPost_end (results_none Tryd.results78 _ _ _) rfl ⟨rfl, RS.out.next (Below.refl _ _).drew, OS.out.drew⟩

end Go.Proofs.YtemldlhhlneleaaDoor
