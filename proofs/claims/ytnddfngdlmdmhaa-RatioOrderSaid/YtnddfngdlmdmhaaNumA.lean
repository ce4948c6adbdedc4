/-
  The reference's numbers in memory; Of, Cmp, Zero.
-/
import Derived.Test.YtnddfngdlmdmhaaRatA
import Derived.Test.YtnddfngdlmdmhaaDig
import Derived.RegionTactic
import Derived.Deep.QuietTactic
import Derived.BigQuiet
import Derived.Outline
namespace Go.Proofs.Ytnddfngdlmdmhaa
open Go.RowKit

/-- a slice value that reads as a number of five digits -/
def Num (w : World) (v : Value) (N : Nat) : Prop := ∃ b, v = .slice (some ⟨b, 0, none⟩) 5 5 ∧ b < w.heap.size ∧ ∀ j, j < 5 → w.cell? ⟨b, j, none⟩ = some (.int .i64 (Dg.dig N j : Nat))
theorem Num.below {w w' : World} {v : Value} {N : Nat} (h : Num w v N) (hb : Below w.heap.size w w') : Num w' v N := by
  obtain ⟨b, e, h0, h1⟩ := h
  refine ⟨b, e, by have := hb.size; omega, fun j hj => ?_⟩
  rw [hb.cell (p := ⟨b, j, none⟩) h0]; exact h1 j hj
theorem Num.alloc {w : World} {v : Value} {N : Nat} (h : Num w v N) (o : Obj) : Num (w.alloc o) v N := h.below ((Below.refl _ _).alloc (Nat.le_refl _) _)

/-- a block of five cells of the call's own -/
def Own5 (w : World) (b : Nat) (f : Nat → Int) : Prop := b < w.heap.size ∧ (∀ j, j < 5 → w.cell? ⟨b, j, none⟩ = some (.int .i64 (f j))) ∧ ∀ j, w.frozen? ⟨b, j, none⟩ = false
theorem Own5.new (w : World) (T : TypeId) : Own5 (w.alloc (.cells #[.int .i64 0, .int .i64 0, .int .i64 0, .int .i64 0, .int .i64 0] T)) w.heap.size (fun _ => 0) := by
  refine ⟨by simp, fun j hj => ?_, fun j => by simp⟩
  rw [World.cell?_alloc_new]
  have : j = 0 ∨ j = 1 ∨ j = 2 ∨ j = 3 ∨ j = 4 := by omega
  rcases this with rfl | rfl | rfl | rfl | rfl <;> rfl
theorem Own5.set {w : World} {b : Nat} {f : Nat → Int} (h : Own5 w b f) (k : Nat) (hk : k < 5) (x : Int) : Own5 (w.setCell ⟨b, k, none⟩ (.int .i64 x)) b (fun j => if j = k then x else f j) := by
  obtain ⟨h0, h1, h2⟩ := h
  have hc := h1 k hk
  refine ⟨by simp; exact h0, fun j hj => ?_, fun j => by simp; exact h2 j⟩
  by_cases hjk : j = k
  · subst hjk
    simp only [if_true]
    exact World.cell?_setCell_same _ _ _ hc
  · simp only [if_neg hjk]
    rw [World.cell?_setCell_other _ _ _ _ (by intro e; injection e with _ e _; exact hjk e.symm)]
    exact h1 j hj
theorem Own5.below {w w' : World} {b B : Nat} {f : Nat → Int} (h : Own5 w b f) (hb : Below B w w') (hB : b < B) : Own5 w' b f := by
  obtain ⟨h0, h1, h2⟩ := h
  refine ⟨by have := hb.size; omega, fun j hj => ?_, fun j => ?_⟩
  · rw [hb.cell (p := ⟨b, j, none⟩) hB]; exact h1 j hj
  · rw [hb.frozen (p := ⟨b, j, none⟩) hB]; exact h2 j
theorem Own5.num {w : World} {b : Nat} {f : Nat → Int} {N : Nat} (h : Own5 w b f) (hf : ∀ j, j < 5 → f j = (Dg.dig N j : Nat)) : Num w (.slice (some ⟨b, 0, none⟩) 5 5) N :=
  ⟨b, rfl, h.1, fun j hj => by rw [h.2.1 j hj, hf j hj]⟩
theorem Num.own {w : World} {b : Nat} {N : Nat} (h : ∀ j, j < 5 → w.cell? ⟨b, j, none⟩ = some (.int .i64 (Dg.dig N j : Nat))) (h0 : b < w.heap.size) (hf : ∀ j, w.frozen? ⟨b, j, none⟩ = false) : Own5 w b (fun j => (Dg.dig N j : Nat)) := ⟨h0, h, hf⟩

theorem make5 (w : World) : (Instr.makeSlice 46 (.int .i64 5) (.int .i64 5)).run Try.prog w = .ok (.slice (some ⟨w.heap.size, 0, none⟩) 5 5) (w.alloc (.cells #[.int .i64 0, .int .i64 0, .int .i64 0, .int .i64 0, .int .i64 0] 3)) := by kernel_rfl

def CmpB (A C : Nat) : Int := if A < C then -1 else if C < A then 1 else 0
theorem cmpB_lt {A C : Nat} (h : A < C) : CmpB A C = -1 := if_pos h
theorem cmpB_gt {A C : Nat} (h : C < A) : CmpB A C = 1 := by unfold CmpB; rw [if_neg (by omega), if_pos h]
theorem cmpB_eq {A : Nat} : CmpB A A = 0 := by unfold CmpB; rw [if_neg (by omega), if_neg (by omega)]

theorem below_drewN {B : Nat} {w w' : World} (h : Below B w w') (n : Nat) : Below B w (w'.drewN n) := by
  induction n with
  | zero => exact h
  | succ n ih => exact Below.drew ih

def CmRel (A C : Nat) (w : World) (i : Value) (wr : World) : Prop := ∃ k : Nat, k ≤ 5 ∧ i = .int .i64 ((k : Int) - 1) ∧ Dg.sh A k = Dg.sh C k ∧ Below w.heap.size w wr

set_option maxHeartbeats 3200000 in
theorem Cmp_x (va vc : Value) (A C : Nat) (w : World) (ha : Num w va A) (hc : Num w vc C) (hA : A < Dg.pw 5) (hC : C < Dg.pw 5) :
    Calls Try.prog 38 #[va, vc] w fun e w' => e = .returned (.int .i64 (CmpB A C)) ∧ Below w.heap.size w w' := by
  obtain ⟨ba, rfl, la, ca⟩ := ha
  obtain ⟨bc, rfl, lc, cc⟩ := hc
  have Ca := Lib.hid ca
  have Cc := Lib.hid cc
  clear ca cc
  have h5 : Hid (Dg.sh A 5 = Dg.sh C 5) := by show _ = _; rw [Dg.sh_zero hA, Dg.sh_zero hC]
  clear hA hC
  go_enter Try.func38, Try.ntmps38
  go_wp2_with fail
  go_loopw [5] (fun i wr => CmRel A C w i wr) (fun i _ => ((intOf i) + 1).toNat)
  case atStart => exact ⟨5, Nat.le_refl _, rfl, h5.out, Below.refl _ _⟩
  case round =>
    obtain ⟨k, hk, rfl, hs, hb⟩ := hrel
    have Hs := Lib.hid hs
    clear hs
    cases k with
    | zero =>
      have hv : Hid (CmpB A C = 0) := by
        have h : A = C := Hs.out
        subst h; exact cmpB_eq
      go_wp2_with fail
      go_ret
      exact ⟨by rw [hv.out]; rfl, hb⟩
    | succ k =>
      have e : ((k + 1 : Nat) : Int) - 1 = (k : Int) := by omega
      rw [e]
      clear e
      have p := (hb.cell (p := ⟨ba, k, none⟩) la).trans (Ca.out k (by omega))
      have q := (hb.cell (p := ⟨bc, k, none⟩) lc).trans (Cc.out k (by omega))
      have H1 : Hid (Dg.dig A k < Dg.dig C k → CmpB A C = -1) := fun h => cmpB_lt (Dg.cmp_less Hs.out h)
      have H2 : Hid (Dg.dig C k < Dg.dig A k → CmpB A C = 1) := fun h => cmpB_gt (Dg.cmp_less Hs.out.symm h)
      have H3 : Hid (Dg.dig A k = Dg.dig C k → Dg.sh A k = Dg.sh C k) := fun h => Dg.cmp_same Hs.out h
      have hk0 : (0 : Int) ≤ (k : Int) := by omega
      have hk5 : (k : Int) < 5 := by omega
      generalize Dg.dig A k = x at *
      generalize Dg.dig C k = y at *
      by_cases h1 : (x : Int) < (y : Int)
      · have hv := Lib.hid (H1.out (by omega))
        have h1' : decide ((x : Int) < (y : Int)) = true := decide_eq_true h1
        clear H1 H2 H3
        go_wp2_with fail
        go_quiet (fail)
        go_wp2_with fail
        go_ret
        exact ⟨by rw [hv.out]; rfl, below_drewN hb _⟩
      · have h1' : decide ((x : Int) < (y : Int)) = false := decide_eq_false h1
        by_cases h2 : (y : Int) < (x : Int)
        · have hv := Lib.hid (H2.out (by omega))
          have h2' : decide ((y : Int) < (x : Int)) = true := decide_eq_true h2
          clear H1 H2 H3
          go_wp2_with fail
          go_quiet (fail)
          go_wp2_with fail
          go_quiet (fail)
          go_wp2_with fail
          go_ret
          exact ⟨by rw [hv.out]; rfl, by repeat (first | exact hb | refine below_drewN ?_ _ | refine Below.drew ?_)⟩
        · have hv := Lib.hid (H3.out (by omega))
          have h2' : decide ((y : Int) < (x : Int)) = false := decide_eq_false h2
          clear H1 H2 H3
          go_wp2_with fail
          go_quiet (fail)
          go_wp2_with fail
          go_quiet (fail)
          go_wp2_with fail
          go_roundw
          case rel => exact ⟨k, by omega, rfl, hv.out, by repeat (first | exact hb | refine below_drewN ?_ _ | refine Below.drew ?_)⟩
          case measure => first | (simp [intOf]; done) | (simp [intOf]; omega)

theorem Zero_x (va : Value) (A : Nat) (w : World) (ha : Num w va A) (hA : A < Dg.pw 5) :
    Calls Try.prog 49 #[va] w fun e w' => e = .returned (.bool (decide (A = 0))) ∧ Below w.heap.size w w' := by
  have hv : Hid ((CmpB A 0 == 0) = decide (A = 0)) := by
    show _ = _
    by_cases h : A = 0
    · subst h; rw [cmpB_eq]; rfl
    · rw [cmpB_gt (by omega), decide_eq_false h]; rfl
  have hz : Num (w.alloc (.cells #[.int .i64 0, .int .i64 0, .int .i64 0, .int .i64 0, .int .i64 0] 3)) (.slice (some ⟨w.heap.size, 0, none⟩) 5 5) 0 :=
    (Own5.new w _).num (fun j _ => by rw [Dg.sh_dig_zero]; rfl)
  have Hz := Lib.hid hz
  have Ha := Lib.hid (ha.alloc (.cells #[.int .i64 0, .int .i64 0, .int .i64 0, .int .i64 0, .int .i64 0] 3))
  clear hz ha
  have hmk := make5
  go_enter Try.func49, Try.ntmps49
  go_wp2_with fail
  refine (Cmp_x _ _ A 0 _ Ha.out Hz.out hA (Dg.pw_pos 5)).mono ?_
  rintro e w1 ⟨rfl, b1⟩
  have c1 := chain ((Below.refl w.heap.size w).alloc (Nat.le_refl _) _) b1
  generalize CmpB A 0 = x at hv ⊢
  go_wp2_with fail
  go_ret
  exact ⟨by rw [← hv.out]; rfl, c1⟩

def OfRel (n : Int) (b : Nat) (w : World) (x i : Value) (wr : World) : Prop := ∃ (k : Nat) (m : Int), k ≤ 3 ∧ i = .int .i64 (k : Int) ∧ x = .int .i64 m ∧ I64 m ∧ m.natAbs = Dg.sh n.natAbs k ∧ Own5 wr b (fun j => if j < k then (Dg.dig n.natAbs j : Nat) else 0) ∧ Below w.heap.size w wr

theorem of_step {n : Int} {b k : Nat} {w : World} (x : Int) (hk : k < 3) (hx : x = (Dg.dig n.natAbs k : Nat)) (h : Own5 w b (fun j => if j = k then x else if j < k then (Dg.dig n.natAbs j : Nat) else 0)) :
    Own5 w b (fun j => if j < k + 1 then (Dg.dig n.natAbs j : Nat) else 0) := by
  have e : (fun j => if j = k then x else if j < k then ((Dg.dig n.natAbs j : Nat) : Int) else 0) = (fun j => if j < k + 1 then ((Dg.dig n.natAbs j : Nat) : Int) else 0) := by
    funext j
    by_cases h1 : j = k
    · subst h1; rw [if_pos rfl, if_pos (Nat.lt_succ_self _), hx]
    · rw [if_neg h1]
      by_cases h2 : j < k
      · rw [if_pos h2, if_pos (by omega)]
      · rw [if_neg h2, if_neg (by omega)]
  rw [← e]; exact h

theorem of_zero {n : Int} (hn : I64 n) (j : Nat) (hj : 3 ≤ j) : Dg.dig n.natAbs j = 0 := by
  unfold Dg.dig
  have h3 : Dg.sh n.natAbs 3 = 0 := Dg.sh_zero (by unfold I64 at hn; show _ < 1073741824 * 1073741824 * 1073741824; omega)
  have : ∀ m, Dg.sh n.natAbs (3 + m) = 0 := by
    intro m
    induction m with
    | zero => exact h3
    | succ m ih => rw [← Nat.add_assoc, Dg.sh_succ, ih]
  rw [show j = 3 + (j - 3) from by omega, this]

set_option maxHeartbeats 3200000 in
theorem Of_x (n : Int) (w : World) (hn : I64 n) : Calls Try.prog 36 #[.int .i64 n] w fun e w' => ∃ v, e = .returned v ∧ Num w' v n.natAbs ∧ n.natAbs < Dg.pw 5 ∧ Below w.heap.size w w' := by
  have hz := Lib.hid (of_zero hn)
  have hpw : Hid (n.natAbs < Dg.pw 5) := by unfold I64 at hn; show n.natAbs < 1073741824 * 1073741824 * 1073741824 * 1073741824 * 1073741824; omega
  have Hn := Lib.hid hn
  clear hn
  have hmk := make5
  go_enter Try.func36, Try.ntmps36
  go_wp2_with fail
  go_loopw [0, 4] (fun x i wr => OfRel n w.heap.size w x i wr) (fun _ i _ => 3 - (intOf i).toNat)
  case atStart => exact ⟨0, n, Nat.zero_le _, rfl, rfl, Hn.out, rfl, Own5.new w _, (Below.refl _ _).alloc (Nat.le_refl _) _⟩
  case round =>
    obtain ⟨k, m, hk, rfl, rfl, hm, hs, ho, hb⟩ := hrel
    have Ho := Lib.hid ho
    have Hm := Lib.hid hm
    have Hs := Lib.hid hs
    unfold I64 at hm
    obtain ⟨m1, m2⟩ := hm
    clear ho hs
    by_cases hlt : k < 3
    · have hc := Ho.out.2.1 k (by omega)
      have hf := Ho.out.2.2 k
      simp only [if_neg (Nat.lt_irrefl k)] at hc
      have hd : Hid ((m.tmod 1073741824).natAbs = Dg.dig n.natAbs k) := by
        show _ = _
        rw [Int.natAbs_tmod, Hs.out]; rfl
      have hq : Hid ((m.tdiv 1073741824).natAbs = Dg.sh n.natAbs (k + 1)) := by
        show _ = _
        rw [Int.natAbs_tdiv, Hs.out]; rfl
      have hq2 : Hid (I64 (m.tdiv 1073741824)) := by
        have h1 : (m.tdiv 1073741824).natAbs = m.natAbs / 1073741824 := by rw [Int.natAbs_tdiv]; rfl
        show I64 _
        unfold I64; omega
      have hdl := Dg.dig_lt n.natAbs k
      have hr1 : -1073741824 < m.tmod 1073741824 := by have := hd.out; omega
      have hr2 : m.tmod 1073741824 < 1073741824 := by have := hd.out; omega
      have hst := Lib.hid (fun (x : Int) (hx : x = (Dg.dig n.natAbs k : Nat)) => of_step x hlt hx (Ho.out.set k (by omega) x))
      have hbs := Lib.hid (fun (x : Value) => hb.setCell (p := ⟨w.heap.size, k, none⟩) (Nat.le_refl _) x)
      by_cases hneg : m.tmod 1073741824 < 0
      · have hval : Hid (-(m.tmod 1073741824) = (Dg.dig n.natAbs k : Nat)) := by have := hd.out; show _ = _; omega
        go_wp2_with fail
        go_roundw
        case rel => exact ⟨k + 1, m.tdiv 1073741824, by omega, by go_num, rfl, hq2.out, hq.out, hst.out _ hval.out, hbs.out _⟩
        case measure => simp [intOf]; omega
      · have hval : Hid (m.tmod 1073741824 = (Dg.dig n.natAbs k : Nat)) := by have := hd.out; show _ = _; omega
        go_wp2_with fail
        go_roundw
        case rel => exact ⟨k + 1, m.tdiv 1073741824, by omega, by go_num, rfl, hq2.out, hq.out, hst.out _ hval.out, hbs.out _⟩
        case measure => simp [intOf]; omega
    · have hk3 : k = 3 := by omega
      have hnum : Hid (Num wr (.slice (some ⟨w.heap.size, 0, none⟩) 5 5) n.natAbs) := Ho.out.num (fun j _ => by
        by_cases h : j < k
        · rw [if_pos h]
        · rw [if_neg h, hz.out j (by omega)]; rfl)
      go_wp2_with fail
      go_ret
      exact ⟨_, rfl, hnum.out, hpw.out, hb⟩

end Go.Proofs.Ytnddfngdlmdmhaa
