/-
  The reference's Plus, Minus.
-/
import Derived.Test.YtnddfngdlmdmhaaNumA
import Derived.IntWalk
namespace Go.Proofs.Ytnddfngdlmdmhaa
open Go.RowKit

/-- the first k digits of N, and zeros -/
def part (N k : Nat) : Nat → Int := fun j => if j < k then (Dg.dig N j : Nat) else 0
theorem part_zero (N : Nat) : part N 0 = fun _ => 0 := by funext j; unfold part; rw [if_neg (Nat.not_lt_zero j)]
theorem part_at (N k : Nat) : part N k k = 0 := by unfold part; rw [if_neg (Nat.lt_irrefl k)]
theorem part_next {N b k : Nat} {w : World} (x : Int) (hx : x = (Dg.dig N k : Nat)) (h : Own5 w b (fun j => if j = k then x else part N k j)) : Own5 w b (part N (k + 1)) := by
  have e : (fun j => if j = k then x else part N k j) = part N (k + 1) := by
    funext j
    unfold part
    by_cases h1 : j = k
    · subst h1; rw [if_pos rfl, if_pos (Nat.lt_succ_self _), hx]
    · rw [if_neg h1]
      by_cases h2 : j < k
      · rw [if_pos h2, if_pos (by omega)]
      · rw [if_neg h2, if_neg (by omega)]
  rw [← e]; exact h
theorem part_all {N b : Nat} {w : World} (h : Own5 w b (part N 5)) : Num w (.slice (some ⟨b, 0, none⟩) 5 5) N := h.num (fun j hj => by unfold part; rw [if_pos hj])
theorem Own5.drewN {w : World} {b : Nat} {f : Nat → Int} (h : Own5 w b f) (n : Nat) : Own5 (w.drewN n) b f := h.below (B := w.heap.size) (below_drewN (Below.refl _ _) n) h.1

def PlRel (A C b : Nat) (w : World) (cv i : Value) (wr : World) : Prop := ∃ k c : Nat, k ≤ 5 ∧ i = .int .i64 (k : Int) ∧ cv = .int .i64 (c : Int) ∧ c ≤ 1 ∧ c + Dg.sh A k + Dg.sh C k = Dg.sh (A + C) k ∧ Own5 wr b (part (A + C) k) ∧ Below w.heap.size w wr

set_option maxHeartbeats 3200000 in
theorem Plus_x (va vc : Value) (A C : Nat) (w : World) (ha : Num w va A) (hc : Num w vc C) :
    Calls Try.prog 60 #[va, vc] w fun e w' => ∃ v, e = .returned v ∧ (∃ b, v = .slice (some ⟨b, 0, none⟩) 5 5 ∧ w.heap.size ≤ b ∧ Own5 w' b (fun j => (Dg.dig (A + C) j : Nat))) ∧ Below w.heap.size w w' := by
  obtain ⟨ba, rfl, la, ca⟩ := ha
  obtain ⟨bc, rfl, lc, cc⟩ := hc
  have Ca := Lib.hid ca
  have Cc := Lib.hid cc
  clear ca cc
  have hmk := make5
  have hst : Hid (Own5 (w.alloc (.cells #[.int .i64 0, .int .i64 0, .int .i64 0, .int .i64 0, .int .i64 0] 3)) w.heap.size (part (A + C) 0)) := by show Own5 _ _ _; rw [part_zero]; exact Own5.new w _
  go_enter Try.func60, Try.ntmps60
  go_wp2_with fail
  go_loopw [6, 7] (fun cv i wr => PlRel A C w.heap.size w cv i wr) (fun _ i _ => 5 - (intOf i).toNat)
  case atStart => exact ⟨0, 0, Nat.zero_le _, rfl, rfl, Nat.zero_le _, by simp [Dg.sh], hst.out, (Below.refl _ _).alloc (Nat.le_refl _) _⟩
  case round =>
    obtain ⟨k, c, hk, rfl, rfl, hc1, hs, ho, hb⟩ := hrel
    have Ho := Lib.hid ho
    have Hs := Lib.hid hs
    clear ho hs hst
    by_cases hlt : k < 5
    · have p := (hb.cell (p := ⟨ba, k, none⟩) la).trans (Ca.out k (by omega))
      have q := (hb.cell (p := ⟨bc, k, none⟩) lc).trans (Cc.out k (by omega))
      have hcc := Ho.out.2.1 k (by omega)
      have hf := Ho.out.2.2 k
      obtain ⟨s1, s2⟩ := Dg.plus_step Hs.out
      have S2 := Lib.hid s2
      have ux := Dg.dig_lt A k
      have uy := Dg.dig_lt C k
      have hk0 : (0 : Int) ≤ (k : Int) := by omega
      have hk5 : (k : Int) < 5 := by omega
      rw [part_at] at hcc
      have hst := Lib.hid (fun (n : Nat) (x : Int) (hx : x = (Dg.dig (A + C) k : Nat)) => part_next x hx ((Ho.out.drewN n).set k hlt x))
      have hbs := Lib.hid (fun (n : Nat) (x : Value) => (below_drewN hb n).setCell (p := ⟨w.heap.size, k, none⟩) (Nat.le_refl _) x)
      generalize Dg.dig A k = x at *
      generalize Dg.dig C k = y at *
      have S1 := Lib.hid s1
      clear s1 s2
      have w1 : IntKind.i64.wrap ((c : Int) + (x : Int)) = (c : Int) + (x : Int) := IntWalk.i64_in _ (by omega)
      have w2 : IntKind.i64.wrap ((c : Int) + (x : Int) + (y : Int)) = (c : Int) + (x : Int) + (y : Int) := IntWalk.i64_in _ (by omega)
      go_wp2_with fail
      go_quiet (fail)
      clear w1 w2
      have h0 : 0 ≤ (c : Int) + (x : Int) + (y : Int) := by omega
      go_wp2_with fail
      go_roundw
      case rel => exact ⟨k + 1, (c + x + y) / 1073741824, by omega, by go_num, by first | (congr 1; done) | (congr 1; omega), by omega, S2.out, hst.out _ _ (by have := S1.out; omega), hbs.out _ _⟩
      case measure => simp [intOf]; omega
    · have h5 : k = 5 := by omega
      have hfin : Hid (Own5 wr w.heap.size (fun j => (Dg.dig (A + C) j : Nat))) := by
        have h := Ho.out
        subst h5
        refine ⟨h.1, fun j hj => ?_, h.2.2⟩
        rw [h.2.1 j hj]; unfold part; rw [if_pos hj]
      go_wp2_with fail
      go_ret
      exact ⟨_, rfl, ⟨_, rfl, Nat.le_refl _, hfin.out⟩, hb⟩

def MiRel (A C b : Nat) (w : World) (cv i : Value) (wr : World) : Prop := ∃ k c : Nat, k ≤ 5 ∧ i = .int .i64 (k : Int) ∧ cv = .int .i64 (c : Int) ∧ c ≤ 1 ∧ Dg.sh (A - C) k + Dg.sh C k + c = Dg.sh A k ∧ Own5 wr b (part (A - C) k) ∧ Below w.heap.size w wr

set_option maxHeartbeats 3200000 in
theorem Minus_x (va vc : Value) (A C : Nat) (w : World) (ha : Num w va A) (hc : Num w vc C) (hle : C ≤ A) :
    Calls Try.prog 61 #[va, vc] w fun e w' => ∃ v, e = .returned v ∧ (∃ b, v = .slice (some ⟨b, 0, none⟩) 5 5 ∧ w.heap.size ≤ b) ∧ Num w' v (A - C) ∧ Below w.heap.size w w' := by
  obtain ⟨ba, rfl, la, ca⟩ := ha
  obtain ⟨bc, rfl, lc, cc⟩ := hc
  have Ca := Lib.hid ca
  have Cc := Lib.hid cc
  clear ca cc
  have hmk := make5
  have hst : Hid (Own5 (w.alloc (.cells #[.int .i64 0, .int .i64 0, .int .i64 0, .int .i64 0, .int .i64 0] 3)) w.heap.size (part (A - C) 0)) := by show Own5 _ _ _; rw [part_zero]; exact Own5.new w _
  have h00 : Hid (A - C + C + 0 = A) := by show _ = _; omega
  clear hle
  go_enter Try.func61, Try.ntmps61
  go_wp2_with fail
  go_loopw [6, 7] (fun cv i wr => MiRel A C w.heap.size w cv i wr) (fun _ i _ => 5 - (intOf i).toNat)
  case atStart => exact ⟨0, 0, Nat.zero_le _, rfl, rfl, Nat.zero_le _, h00.out, hst.out, (Below.refl _ _).alloc (Nat.le_refl _) _⟩
  case round =>
    obtain ⟨k, c, hk, rfl, rfl, hc1, hs, ho, hb⟩ := hrel
    have Ho := Lib.hid ho
    have Hs := Lib.hid hs
    clear ho hs hst
    by_cases hlt : k < 5
    · have p := (hb.cell (p := ⟨ba, k, none⟩) la).trans (Ca.out k (by omega))
      have q := (hb.cell (p := ⟨bc, k, none⟩) lc).trans (Cc.out k (by omega))
      have hcc := Ho.out.2.1 k (by omega)
      have hf := Ho.out.2.2 k
      obtain ⟨s1, s2⟩ := Dg.minus_step hc1 Hs.out
      have S1 := Lib.hid s1
      have S2 := Lib.hid s2
      have ux := Dg.dig_lt A k
      have uy := Dg.dig_lt C k
      have hk0 : (0 : Int) ≤ (k : Int) := by omega
      have hk5 : (k : Int) < 5 := by omega
      rw [part_at] at hcc
      have hst := Lib.hid (fun (n : Nat) (x : Int) (hx : x = (Dg.dig (A - C) k : Nat)) => part_next x hx ((Ho.out.drewN n).set k hlt x))
      have hbs := Lib.hid (fun (n : Nat) (x : Value) => (below_drewN hb n).setCell (p := ⟨w.heap.size, k, none⟩) (Nat.le_refl _) x)
      clear s1 s2
      generalize Dg.dig A k = x at *
      generalize Dg.dig C k = y at *
      have w1 : IntKind.i64.wrap ((x : Int) - (y : Int)) = (x : Int) - (y : Int) := IntWalk.i64_in _ (by omega)
      have w2 : IntKind.i64.wrap ((x : Int) - (y : Int) - (c : Int)) = (x : Int) - (y : Int) - (c : Int) := IntWalk.i64_in _ (by omega)
      by_cases hneg : x < y + c
      · obtain ⟨t1, t2⟩ := S1.out hneg
        have T1 : Hid ((x : Int) - (y : Int) - (c : Int) + 1073741824 = (Dg.dig (A - C) k : Nat)) := by show _ = _; omega
        have T2 := Lib.hid t2
        clear t1 t2
        have hn : (x : Int) - (y : Int) - (c : Int) < 0 := by omega
        go_wp2_with fail
        go_quiet (fail)
        clear w1 w2
        go_wp2_with fail
        go_roundw
        case rel => exact ⟨k + 1, 1, by omega, by go_num, rfl, Nat.le_refl _, T2.out, hst.out _ _ T1.out, hbs.out _ _⟩
        case measure => simp [intOf]; omega
      · obtain ⟨t1, t2⟩ := S2.out hneg
        have T1 : Hid ((x : Int) - (y : Int) - (c : Int) = (Dg.dig (A - C) k : Nat)) := by show _ = _; omega
        have T2 := Lib.hid t2
        clear t1 t2
        have hn : ¬ (x : Int) - (y : Int) - (c : Int) < 0 := by omega
        go_wp2_with fail
        go_quiet (fail)
        clear w1 w2
        go_wp2_with fail
        go_roundw
        case rel => exact ⟨k + 1, 0, by omega, by go_num, rfl, Nat.zero_le _, T2.out, hst.out _ _ T1.out, hbs.out _ _⟩
        case measure => simp [intOf]; omega
    · have h5 : k = 5 := by omega
      have hfin : Hid (Num wr (.slice (some ⟨w.heap.size, 0, none⟩) 5 5) (A - C)) := by
        have h := Ho.out
        subst h5
        exact part_all h
      go_wp2_with fail
      go_ret
      exact ⟨_, rfl, ⟨_, rfl, Nat.le_refl _⟩, hfin.out, hb⟩

end Go.Proofs.Ytnddfngdlmdmhaa
