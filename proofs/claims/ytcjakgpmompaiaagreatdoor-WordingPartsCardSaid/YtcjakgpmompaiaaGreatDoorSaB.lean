/-
  The example of the laws in memory.
-/
import Derived.Test.YtcjakgpmompaiaaGreatDoorSaA
namespace Go.Proofs.YtcjakgpmompaiaaGreatDoor
open Go.RowKit Rl Wd

/-- the blocks that the example makes -/
def exO (n : Nat) : List Obj := [
  .cells #[.slice (some ⟨n + 2, 0, none⟩) 1 1, .slice (some ⟨n + 3, 0, none⟩) 1 1, .slice (some ⟨n + 4, 0, none⟩) 1 1, .slice (some ⟨n + 5, 0, none⟩) 2 2, .slice (some ⟨n + 6, 0, none⟩) 1 1, .slice none 0 0, .slice none 0 0, .slice none 0 0] 31,
  .cells #[.int .i64 0, .int .i64 1, .int .i64 (-1), .int .i64 500, .int .i64 0, .int .i64 0, .int .i64 0, .int .i64 0, .int .i64 59, .int .i64 0, .int .i64 0, .int .i64 (-1), .int .i64 0, .int .i64 1, .int .i64 2] 35,
  .cells #[.string sFranc] 9,
  .cells #[.string sLyon, .int .i64 0, .int .i64 0, .slice none 0 0, .slice none 0 0, .slice none 0 0] 75,
  .cells #[.int .i64 3] 81,
  .cells #[.string sBodmer, .int .i64 0, .int .i64 0, .string sHope, .int .i64 0, .int .i64 0] 78,
  .cells #[.string sGeneva, .bool false, .slice none 0 0, .slice none 0 0] 85,
  .cells #[.slice (some ⟨n + 2, 0, none⟩) 1 1, .slice (some ⟨n + 3, 0, none⟩) 1 1, .slice (some ⟨n + 4, 0, none⟩) 1 1, .slice (some ⟨n + 5, 0, none⟩) 2 2, .slice (some ⟨n + 6, 0, none⟩) 1 1, .slice none 0 0, .slice none 0 0, .slice none 0 0] 31,
  .cells #[.int .i64 0, .int .i64 1, .int .i64 (-1), .int .i64 500, .int .i64 0, .int .i64 0, .int .i64 0, .int .i64 0, .int .i64 59, .int .i64 0, .int .i64 0, .int .i64 (-1), .int .i64 0, .int .i64 1, .int .i64 2] 35]
def exW (w : World) : World := ((exO w.heap.size).foldl World.alloc w).drew
theorem fold_heap : ∀ (l : List Obj) (w : World), (l.foldl World.alloc w).heap = w.heap ++ l.toArray
  | [], w => by simp
  | o :: l, w => by
    rw [List.foldl_cons, fold_heap l (w.alloc o)]
    show w.heap.push o ++ l.toArray = _
    simp
theorem fold_below : ∀ (l : List Obj) (w : World), Below w.heap.size w (l.foldl World.alloc w)
  | [], _ => Below.refl _ _
  | o :: l, w => chain (Below.new1 o) (fold_below l (w.alloc o))
theorem exW_heap (w : World) (i : Nat) (o : Obj) (h : (exO w.heap.size)[i]? = some o) : (exW w).heap[w.heap.size + i]? = some o := by
  have e : (exW w).heap = ((exO w.heap.size).foldl World.alloc w).heap := rfl
  rw [e, fold_heap, Array.getElem?_append_right (by omega), Nat.add_sub_cancel_left]
  simpa using h
theorem ex_below (w : World) : Below w.heap.size w (exW w) := (fold_below _ _).drew
theorem ex_at (w : World) : ExB (exW w) w.heap.size :=
  ⟨Fl.heap (exW_heap w 2 _ rfl), Fl.heap (exW_heap w 3 _ rfl), Fl.heap (exW_heap w 4 _ rfl), Fl.heap (exW_heap w 5 _ rfl), Fl.heap (exW_heap w 6 _ rfl)⟩
set_option maxHeartbeats 3200000 in
set_option maxRecDepth 100000 in
theorem example_x (w : World) :
    Calls Tryz.prog 19 #[] w fun r w' => r = .returned (.tuple #[.agg #[.slice (blk w.heap.size 2) 1 1, .slice (blk w.heap.size 3) 1 1, .slice (blk w.heap.size 4) 1 1, .slice (blk w.heap.size 5) 2 2, .slice (blk w.heap.size 6) 1 1, .slice none 0 0, .slice none 0 0, .slice none 0 0], vB (eB 0 2)]) ∧ ExB w' w.heap.size ∧ Below w.heap.size w w' := by
  go_enter Tryz.func19, Tryz.ntmps19
  go_wp2_with fail
  go_region
  all_goals go_wp2
  have q0 := Fl.heap (exW_heap w 0 _ rfl)
  have q1 := Fl.heap (exW_heap w 1 _ rfl)
  have a0 : (exW w).cell? ⟨w.heap.size, 0, none⟩ = _ := q0.2 0 _ rfl
  have a1 : (exW w).cell? ⟨w.heap.size, 1, none⟩ = _ := q0.2 1 _ rfl
  have a2 : (exW w).cell? ⟨w.heap.size, 2, none⟩ = _ := q0.2 2 _ rfl
  have a3 : (exW w).cell? ⟨w.heap.size, 3, none⟩ = _ := q0.2 3 _ rfl
  have a4 : (exW w).cell? ⟨w.heap.size, 4, none⟩ = _ := q0.2 4 _ rfl
  have a5 : (exW w).cell? ⟨w.heap.size, 5, none⟩ = _ := q0.2 5 _ rfl
  have a6 : (exW w).cell? ⟨w.heap.size, 6, none⟩ = _ := q0.2 6 _ rfl
  have a7 : (exW w).cell? ⟨w.heap.size, 7, none⟩ = _ := q0.2 7 _ rfl
  have b0 : (exW w).cell? ⟨w.heap.size + 1, 0, none⟩ = _ := q1.2 0 _ rfl
  have b1 : (exW w).cell? ⟨w.heap.size + 1, 1, none⟩ = _ := q1.2 1 _ rfl
  have b2 : (exW w).cell? ⟨w.heap.size + 1, 2, none⟩ = _ := q1.2 2 _ rfl
  have b3 : (exW w).cell? ⟨w.heap.size + 1, 3, none⟩ = _ := q1.2 3 _ rfl
  have b4 : (exW w).cell? ⟨w.heap.size + 1, 4, none⟩ = _ := q1.2 4 _ rfl
  have b5 : (exW w).cell? ⟨w.heap.size + 1, 5, none⟩ = _ := q1.2 5 _ rfl
  have b6 : (exW w).cell? ⟨w.heap.size + 1, 6, none⟩ = _ := q1.2 6 _ rfl
  have b7 : (exW w).cell? ⟨w.heap.size + 1, 7, none⟩ = _ := q1.2 7 _ rfl
  have b8 : (exW w).cell? ⟨w.heap.size + 1, 8, none⟩ = _ := q1.2 8 _ rfl
  have b9 : (exW w).cell? ⟨w.heap.size + 1, 9, none⟩ = _ := q1.2 9 _ rfl
  have b10 : (exW w).cell? ⟨w.heap.size + 1, 10, none⟩ = _ := q1.2 10 _ rfl
  have b11 : (exW w).cell? ⟨w.heap.size + 1, 11, none⟩ = _ := q1.2 11 _ rfl
  have b12 : (exW w).cell? ⟨w.heap.size + 1, 12, none⟩ = _ := q1.2 12 _ rfl
  have b13 : (exW w).cell? ⟨w.heap.size + 1, 13, none⟩ = _ := q1.2 13 _ rfl
  have b14 : (exW w).cell? ⟨w.heap.size + 1, 14, none⟩ = _ := q1.2 14 _ rfl
  clear q0 q1
  refine bodyPost_ret (v := .tuple #[.agg #[.slice (blk w.heap.size 2) 1 1, .slice (blk w.heap.size 3) 1 1, .slice (blk w.heap.size 4) 1 1, .slice (blk w.heap.size 5) 2 2, .slice (blk w.heap.size 6) 1 1, .slice none 0 0, .slice none 0 0, .slice none 0 0], vB (eB 0 2)]) ?_ rfl ?_
  · show (results _ _).run _ (exW w) = _
    simp [results, Tryz.results19, go_sem, a0, a1, a2, a3, a4, a5, a6, a7, b0, b1, b2, b3, b4, b5, b6, b7, b8, b9, b10, b11, b12, b13, b14, eB]
    rfl
  · exact ⟨rfl, ex_at w, ex_below w⟩
end Go.Proofs.YtcjakgpmompaiaaGreatDoor
