/-
  The examples of layer 6, calculated.
-/
import Derived.Test.YtndcbhgdlaemaaaGrB
import Derived.Test.YtndcbhgdlaemaaaGrC
import Derived.Test.YtndcbhgdlaemaaaGrD
import Derived.Test.YtndcbhgdlaemaaaGrE
namespace Go.Proofs.Ytndcbhgdlaemaaa.Gr

def mutC (n : Int) (e : E) (a b : Int) : Bool := ((reachC n e a)[b.toNat]?).getD false && ((reachC n e b)[a.toNat]?).getD false
theorem mut_eq {n : Int} {e : E} (hr : rightB n e = true) {a b : Int} (ha : 0 ≤ a ∧ a < n) (hb : 0 ≤ b ∧ b < n) : mutB e a b = mutC n e a b := by
  unfold mutB mutC
  rw [← reach_eq, ← reach_eq, reach_get hr ha (show b.toNat < n.toNat by omega), reach_get hr hb (show a.toNat < n.toNat by omega), Int.toNat_of_nonneg hb.1, Int.toNat_of_nonneg ha.1]
  rfl
def groupsC (n : Int) (e : E) : List (List Int) := if rightB n e = true then ((nodes n).filter (fun a => (nodes n).all (fun b => !mutC n e a b || decide (a ≤ b)))).map (fun a => (nodes n).filter (mutC n e a)) else []
theorem groups_eq (n : Int) (e : E) : groups n e = groupsC n e := by
  by_cases hr : rightB n e = true
  case neg => unfold groups groupsC; rw [if_neg hr, if_neg hr]
  unfold groups groupsC
  rw [if_pos hr, if_pos hr]
  have h1 : ∀ a ∈ nodes n, leastB n e a = (nodes n).all (fun b => !mutC n e a b || decide (a ≤ b)) := by
    intro a ha
    unfold leastB
    have key : ∀ l : List Int, (∀ b ∈ l, b ∈ nodes n) → l.all (fun b => !mutB e a b || decide (a ≤ b)) = l.all (fun b => !mutC n e a b || decide (a ≤ b)) := by
      intro l
      induction l with
      | nil => intro _; rfl
      | cons b t ih =>
        intro hl
        rw [List.all_cons, List.all_cons, ih (fun c hc => hl c (List.mem_cons_of_mem _ hc)), mut_eq hr (mem_nodes.1 ha) (mem_nodes.1 (hl b (by simp)))]
    exact key _ (fun b hb => hb)
  unfold heads
  rw [List.filter_congr h1]
  apply List.map_congr_left
  intro a ha
  have ha' := (List.mem_filter.1 ha).1
  unfold groupOf
  exact List.filter_congr fun b hb => mut_eq hr (mem_nodes.1 ha') (mem_nodes.1 hb)

abbrev eA : E := [(3, 1), (1, 2), (2, 1), (0, 4)]
abbrev eB : E := [(3, 1), (1, 2), (0, 4)]
theorem ex_ordA : order 5 eA = none := by decide +kernel
theorem ex_ordB : order 5 eB = some [0, 3, 1, 2, 4] := by decide +kernel
theorem ex_cycA : cycle 5 eA = [1, 2] := by rw [cycle_eq]; decide +kernel
theorem ex_cycB : cycle 5 (eA ++ [(4, 0)]) = [0, 4] := by rw [cycle_eq]; decide +kernel
theorem ex_reach : reach 5 eA 3 = [false, true, true, true, false] := by rw [reach_eq]; decide +kernel
theorem ex_reach5 : reach 5 eA 5 = [] := by rw [reach_eq]; decide +kernel
theorem ex_groups : groups 5 eA = [[0], [1, 2], [3], [4]] := by rw [groups_eq]; decide +kernel

end Go.Proofs.Ytndcbhgdlaemaaa.Gr
