/-
  The reference's Cycle.
-/
import Derived.Test.YtndcbhgdlaemaaaRefE
namespace Go.Proofs.Ytndcbhgdlaemaaa
open Go.RowKit Gr

def CyRel (n : Int) (e : E) (w : World) (b : Value) (wr : World) : Prop := ∃ j : Nat, j ≤ n.toNat ∧ b = .int .i64 ((j : Int) + 1) ∧ (∀ m, m < j → cycA n e m = []) ∧ Below w.heap.size w wr
def CxRel (n : Int) (e : E) (j : Nat) (w : World) (b : Value) (wr : World) : Prop := ∃ i : Nat, i ≤ n.toNat ∧ b = .int .i64 (i : Int) ∧ (∀ a : Int, 0 ≤ a → a < i → clos n e j [a] = []) ∧ Below w.heap.size w wr
theorem SAt.one (w : World) (x : Value) (T : TypeId) (n : Nat) (hn : n = w.heap.size) : SAt (w.alloc (.cells #[x] T)) (.slice (some ⟨n, 0, none⟩) 1 1) [x] := by
  subst hn
  refine ⟨_, 1, rfl, Nat.le_refl _, fun j y hy => ?_⟩
  cases j with
  | succ j => simp at hy
  | zero =>
    simp only [List.getElem?_cons_zero, Option.some.injEq] at hy
    subst hy
    refine ⟨w.heap.size, 0, rfl, by simp, ?_⟩
    rw [World.cell?_alloc_new]
    rfl

set_option maxHeartbeats 6400000 in
theorem Cycle_x (v : Value) (n : Int) (e : E) (w : World) (hat : EAt w v e) (hl : e.length ≤ 1152921504606846976) :
    Calls Try.prog 18 #[.int .i64 n, v] w fun r w' => ∃ x, r = .returned x ∧ SAt w' x (ints (cycC n e)) ∧ Below w.heap.size w w' := by
  have HAT := Lib.hid hat
  obtain ⟨ad, cap, rfl, -, -⟩ := id hat
  obtain ⟨rb, hrb⟩ : ∃ rb, rightB n e = rb := ⟨_, rfl⟩
  have RB := Lib.hid hrb
  cases rb with
  | false =>
    have hv : Hid (cycC n e = []) := by show _ = _; unfold cycC; rw [if_neg (by rw [hrb]; simp)]
    clear hrb
    go_enter Try.func18, Try.ntmps18
    go_wp2_with fail
    refine (Right_x _ _ e _ hat hl).mono ?_
    rintro r w1 ⟨rfl, rfl⟩
    rw [RB.out]
    go_wp2_with fail
    go_ret
    exact ⟨_, rfl, by rw [hv.out]; exact SAt.nil _, Below.refl _ _⟩
  | true =>
    obtain ⟨⟨n0, n300⟩, -, -⟩ := right_iff.1 hrb
    have hv : Hid (cycC n e = firstNe (cycA n e) (List.range n.toNat)) := by show _ = _; unfold cycC; rw [if_pos hrb]
    obtain ⟨N, rfl⟩ := Int.eq_ofNat_of_zero_le n0
    have n300' : N ≤ 300 := by omega
    rw [Int.toNat_natCast] at hv
    have HC := Lib.hid (closing_x (N : Int) e ⟨n0, n300⟩ hl)
    clear hrb
    go_enter Try.func18, Try.ntmps18
    go_wp2_with fail
    refine (Right_x _ _ e _ hat hl).mono ?_
    rintro r w1 ⟨rfl, rfl⟩
    rw [RB.out]
    go_wp2_with fail
    go_loopw [5] (fun b wr => CyRel N e w b wr) (fun b _ => ((N : Int) + 1 - intOf b).toNat)
    case atStart => exact ⟨0, Nat.zero_le _, rfl, fun m h => absurd h (by omega), Below.refl _ _⟩
    case round =>
      obtain ⟨j, hj, rfl, hall, hbel⟩ := hrel
      rw [Int.toNat_natCast] at hj
      have j0 : (0 : Int) ≤ (j : Int) := by omega
      have jb : (j : Int) ≤ 300 := by omega
      have HALL := Lib.hid hall
      clear hall
      by_cases c : (j : Int) + 1 ≤ (N : Int)
      case neg =>
        have hz : Hid (cycC N e = []) := by
          show _ = _
          rw [hv.out]
          exact firstNe_nil.2 fun m hm => HALL.out m (by have := List.mem_range.1 hm; omega)
        go_wp2_with fail
        go_ret
        exact ⟨_, rfl, by rw [hz.out]; exact SAt.nil _, hbel⟩
      case pos =>
        have j1 : (j : Int) + 1 - 1 = (j : Int) := by omega
        have HB := Lib.hid hbel
        clear hbel
        go_wp2_with fail
        go_loopw [6] (fun b wx => CxRel N e j w b wx) (fun b _ => ((N : Int) - intOf b).toNat)
        case atStart => exact ⟨0, Nat.zero_le _, rfl, fun a h1 h2 => by omega, HB.out⟩
        case round =>
          clear HB
          obtain ⟨i, hi, rfl, hall2, hb2⟩ := hrel
          rw [Int.toNat_natCast] at hi
          have i0 : (0 : Int) ≤ (i : Int) := by omega
          have HA2 := Lib.hid hall2
          have HB2 := Lib.hid hb2
          clear hall2 hb2
          by_cases d : (i : Int) < (N : Int)
          case neg =>
            have hA : Hid (cycA N e j = []) := firstNe_nil.2 fun a ha => HA2.out a (mem_nodes.1 ha).1 (by have := (mem_nodes.1 ha).2; omega)
            go_wp2_with fail
            go_roundw
            case rel => exact ⟨j + 1, by rw [Int.toNat_natCast]; omega, by congr 1, fun m hm => by
              by_cases hm2 : m = j
              · rw [hm2]; exact hA.out
              · exact HALL.out m (by omega), HB2.out⟩
            case measure => simp [intOf]; omega
          case pos =>
            have sz := HB2.out.size
            have b1 : Hid (Below w.heap.size w (wr.alloc (.cells #[.int .i64 (i : Int)] 3))) := HB2.out.alloc sz _
            have HI := Lib.hid (HC.out j [(i : Int)] _ (.slice (some ⟨wr.heap.size, 0, none⟩) 1 1) (wr.alloc (.cells #[.int .i64 (i : Int)] 3)) (HAT.out.below b1.out (Nat.le_refl _)) (SAt.one wr _ _ _ rfl) (by simp) (by simp; omega) ⟨i0, d⟩)
            go_wp2_with fail
            refine HI.out.mono ?_
            rintro r w6 ⟨y, rfl, hy, b6⟩
            have bel6 := chain b1.out b6
            have HY := Lib.hid hy
            obtain ⟨a6, c6, rfl, -, -⟩ := hy
            rw [List.length_map] at HY ⊢
            clear b6 b1 HI
            by_cases hG : clos N e j [(i : Int)] = []
            · have f0 : (clos N e j [(i : Int)]).length = 0 := by rw [hG]; rfl
              have HG := Lib.hid hG
              clear hG
              go_wp2_with fail
              go_roundw
              case rel => exact ⟨i + 1, by rw [Int.toNat_natCast]; omega, by congr 1, fun a h1 h2 => by
                by_cases ha : a = (i : Int)
                · rw [ha]; exact HG.out
                · exact HA2.out a h1 (by omega), bel6⟩
              case measure => simp [intOf]; omega
            · have f0 : (0 : Int) < ((clos N e j [(i : Int)]).length : Int) := by have := List.length_pos_iff.2 hG; omega
              have hz : Hid (cycC N e = clos N e j [(i : Int)]) := by
                have h1 : cycA N e j = clos N e j [(i : Int)] := firstNe_first (f := fun a => clos N e j [a]) (nodes_pair N) (mem_nodes.2 ⟨i0, d⟩) (fun x hx hxi => HA2.out x (mem_nodes.1 hx).1 hxi) hG
                show _ = _
                rw [hv.out, firstNe_first (List.pairwise_lt_range (n := N)) (List.mem_range.2 (by omega)) (fun m _ hm => HALL.out m hm) (by rw [h1]; exact hG), h1]
              clear hG
              go_wp2_with fail
              go_ret
              exact ⟨_, rfl, by rw [hz.out]; exact HY.out, bel6⟩

end Go.Proofs.Ytndcbhgdlaemaaa
