/-
  The example of the laws: its realm and its bill, plain and in memory.
-/
import Derived.Test.YtcjakgpmompaiaaGreatDoorWrE
import Derived.Laws.Rows
import Derived.KernelRfl
import Derived.BigRegion
namespace Go.Proofs.YtcjakgpmompaiaaGreatDoor
open Go.RowKit Rl Wd

def sFranc : B := ⟨#[102, 114, 97, 110, 99]⟩
def sLyon : B := ⟨#[76, 121, 111, 110]⟩
def sBodmer : B := ⟨#[66, 111, 100, 109, 101, 114]⟩
def sHope : B := ⟨#[72, 111, 112, 101]⟩
def sGeneva : B := ⟨#[103, 101, 110, 101, 118, 97]⟩
/-- the example's realm -/
def EX : Rlm where
  cur := [sFranc]
  cities := [⟨sLyon, 0, 0, none, none, none, 0, 0, 0, [], [], []⟩]
  groups := [3]
  firms := [⟨sBodmer, 0, 0⟩, ⟨sHope, 0, 0⟩]
  orders := [⟨sGeneva, false, none, none, 0, 0, [], []⟩]
  usances := []
  rates := []
  halts := []
/-- an empty realm -/
def EZ : Rlm := ⟨[], [], [], [], [], [], [], []⟩
/-- the example's bill, with that kind and those parts -/
def eB (k N : Int) : Bl := ⟨0, 1, -1, 500, 0, k, 0, 0, 59, 0, 0, -1, 0, 1, N⟩
theorem ex_check : checkW EX (eB 0 2) = 0 := by kernel_rfl
theorem ex_part : checkW EX (eB 0 5) = 15 := by kernel_rfl
theorem ex_us : checkW EX (eB 4 2) = 4 := by kernel_rfl
theorem ez_check : checkW EZ (eB 0 2) = 1 := by kernel_rfl
theorem ex_fit : Fit EX := by
  refine ⟨⟨?_, ?_, ?_, ?_, ?_, ?_, ?_, ?_, ?_, ?_⟩, ?_, ?_, ?_, ?_, ?_, ?_, ?_, ?_, ?_⟩
  all_goals first | decide | (simp [EX, Sz]; done)
theorem ez_fit : Fit EZ := by
  refine ⟨⟨?_, ?_, ?_, ?_, ?_, ?_, ?_, ?_, ?_, ?_⟩, ?_, ?_, ?_, ?_, ?_, ?_, ?_, ?_, ?_⟩
  all_goals first | decide | (simp [EZ, Sz]; done)
theorem d1 (n : Nat) (h : n < 10) : dec (n : Int) = [UInt8.ofNat (48 + n)] := by rw [dec_nat, decD_small h]
theorem d_500 : dec 500 = [53, 48, 48] := by
  show Lib.decDigits 500 = _
  rw [decD_big (by decide), decD_big (by decide), decD_small (by decide)]
  rfl
theorem d_2000 : dec 2000 = [50, 48, 48, 48] := by
  show Lib.decDigits 2000 = _
  rw [decD_big (by decide), decD_big (by decide), decD_big (by decide), decD_small (by decide)]
  rfl
theorem d_29 : dec 29 = [50, 57] := by
  show Lib.decDigits 29 = _
  rw [decD_big (by decide), decD_small (by decide)]
  rfl
theorem d_2 : dec 2 = [50] := by
  show Lib.decDigits 2 = _
  rw [decD_small (by decide)]
  rfl
theorem d_1 : dec 1 = [49] := by
  show Lib.decDigits 1 = _
  rw [decD_small (by decide)]
  rfl
theorem ex_date : Ca.date 59 = (2000, 2, 29, 0) := by decide +kernel
theorem d_date : dateB 59 = [50, 48, 48, 48, 45, 50, 45, 50, 57] := by
  unfold dateB
  rw [ex_date]
  dsimp only
  rw [d_2000, d_2, d_29]
  rfl
theorem d_oth : othB 2 1 = [49] := by
  have : othN 2 1 = [dec 1] := rfl
  unfold othB
  rw [this, d_1]
  rfl
def wantL : L8 := [98, 105, 108, 108, 32, 50, 32, 111, 102, 32, 50, 10, 100, 114, 97, 119, 110, 32, 105, 110, 32, 76, 121, 111, 110, 32, 111, 110, 32, 50, 48, 48, 48, 45, 50, 45, 50, 57, 10, 112, 97, 121, 32, 97, 116, 32, 115, 105, 103, 104, 116, 10, 116, 111, 32, 98, 101, 97, 114, 101, 114, 10, 53, 48, 48, 32, 102, 114, 97, 110, 99, 10, 116, 111, 32, 98, 101, 32, 112, 97, 105, 100, 32, 98, 121, 32, 72, 111, 112, 101, 32, 105, 110, 32, 76, 121, 111, 110, 10, 117, 110, 108, 101, 115, 115, 32, 112, 97, 114, 116, 32, 49, 32, 119, 97, 115, 32, 112, 97, 105, 100, 10, 115, 105, 103, 110, 101, 100, 32, 66, 111, 100, 109, 101, 114, 10]
theorem ex_word : wordW EX (eB 0 2) 1 = wantL := by
  rw [word_eq]
  show tBill ++ 32 :: (dec 2 ++ (tOf ++ (dec 2 ++ 10 :: (tDrawn ++ (sLyon.data.toList ++ (tOn ++ (dateB 59 ++ 10 :: (tPay ++ (tSight ++ 10 :: (tTo ++ (tBearer ++ 10 :: (dec 500 ++ 32 :: (sFranc.data.toList ++ ([] ++ 10 :: (tBy ++ (sHope.data.toList ++ (tIn ++ (sLyon.data.toList ++ 10 :: (tUnless ++ ((othB 2 1 ++ tWas) ++ 10 :: []) ++ ([] ++ ([] ++ (tSigned ++ (sBodmer.data.toList ++ [10]))))))))))))))))))))))) = _
  rw [d_2, d_date, d_500, d_oth]
  rfl
theorem ex_has1 : Has EX (eB 0 2) 1 := ⟨ex_check, by decide, by decide⟩
theorem ex_has0 : Has EX (eB 0 2) 0 := ⟨ex_check, by decide, by decide⟩
theorem ex_text : textP EX (eB 0 2) 1 = mkB wantL := by rw [textP_yes ex_has1, ex_word]
theorem ex_none : textP EX (eB 0 2) 2 = ByteArray.empty := textP_no (fun h => absurd h.hi (by decide))
theorem ex_parse (hu : Uniq EX (mkB wantL)) : parseP EX (mkB wantL) = some (eB 0 2, 1) := parse_yes hu ⟨ex_has1, by rw [ex_word]⟩
/-- a wording does not end with an empty line -/
theorem word_end (R : Rlm) (b : Bl) (p : Int) (h : Rt R b) : ∃ (x : L8) (c : UInt8), wordW R b p = x ++ [c, 10] ∧ c ≠ 10 := by
  have hw := (firm_facts h.realm h.drawer).1
  have e : ∃ y : L8, wordW R b p = y ++ ((tSigned ++ firmN R b.drawer) ++ [10]) := by
    unfold wordW linesW
    rw [List.flatMap_append]
    exact ⟨_, by rw [List.flatMap_cons, List.flatMap_nil, List.append_nil]⟩
  obtain ⟨y, e⟩ := e
  rcases List.eq_nil_or_concat (firmN R b.drawer) with h0 | ⟨z, c, h0⟩
  · rw [h0] at e
    exact ⟨y ++ [115, 105, 103, 110, 101, 100], 32, by rw [e]; simp, by decide⟩
  · rw [h0] at e hw
    exact ⟨y ++ (tSigned ++ z), c, by rw [e]; simp, (mor_facts (hw c (by simp))).2.1⟩
theorem ex_more : parseP EX (mkB (wantL ++ [10])) = none := parse_no (fun b p h => by
  obtain ⟨x, c, e, hc⟩ := word_end EX b p (rt_of h.ok)
  have h2 := mkB_inj h.eq
  rw [e] at h2
  have h3 := congrArg (fun l : L8 => l.reverse[1]?) h2
  rw [List.reverse_append, List.reverse_append] at h3
  have e1 : ([c, 10].reverse ++ x.reverse)[1]? = some c := rfl
  have e2 : (([10] : L8).reverse ++ wantL.reverse)[1]? = some 10 := by decide +kernel
  rw [e1, e2] at h3
  simp only [Option.some.injEq] at h3
  exact hc h3.symm)
theorem ex_alike (h1 : Uniq EX (mkB wantL)) (h2 : Uniq EX (textP EX (eB 0 2) 0)) : alikeP EX (mkB wantL) (textP EX (eB 0 2) 0) = true := by
  unfold alikeP
  rw [ex_parse h1, parse_yes h2 ⟨ex_has0, textP_yes ex_has0⟩]
  simp
/-- a block that holds those values -/
def Fl (w : World) (g : Nat) (vs : List Value) : Prop := g < w.heap.size ∧ ∀ (j : Nat) (v : Value), vs[j]? = some v → w.cell? ⟨g, j, none⟩ = some v
theorem Fl.next {w w' : World} {g : Nat} {vs : List Value} (h : Fl w g vs) (hb : Below w.heap.size w w') : Fl w' g vs := ⟨lt_up hb h.1, fun j v hv => cell_up hb (h.2 j v hv)⟩
theorem flat_get : ∀ (l : List (List Value)) (k j i : Nat) (x : List Value) (y : Value), (∀ r ∈ l, r.length = k) → l[j]? = some x → x[i]? = some y → l.flatten[j * k + i]? = some y
  | [], _, _, _, _, _, _, h, _ => by simp at h
  | r :: l, k, 0, i, x, y, hk, h, hy => by
    simp only [List.getElem?_cons_zero, Option.some.injEq] at h
    subst h
    have hi := (List.getElem?_eq_some_iff.1 hy).1
    rw [List.flatten_cons, Nat.zero_mul, Nat.zero_add, List.getElem?_append_left hi]
    exact hy
  | r :: l, k, j + 1, i, x, y, hk, h, hy => by
    rw [List.getElem?_cons_succ] at h
    have hr := hk r (by simp)
    rw [List.flatten_cons, List.getElem?_append_right (by rw [hr, Nat.succ_mul]; omega), hr, show (j + 1) * k + i - k = j * k + i by rw [Nat.succ_mul]; omega]
    exact flat_get l k j i x y (fun r h => hk r (by simp [h])) h hy
theorem Fl.row {T : Type} {w : World} {g k cap : Nat} {c : T → List Value} {l : List T} (h : Fl w g (l.map c).flatten) (hk : ∀ x ∈ l, (c x).length = k) (hc : l.length ≤ cap) : LAt w k c (.slice (some ⟨g, 0, none⟩) l.length cap) l :=
  ⟨⟨some ⟨g, 0, none⟩, cap, by rw [List.length_map], by rw [List.length_map]; exact hc, fun j x hx => ⟨g, 0, rfl, h.1, fun i y hy => by
    rw [Nat.zero_add]
    exact h.2 _ _ (flat_get _ k j i x y (fun r hr => by obtain ⟨z, hz, rfl⟩ := List.mem_map.1 hr; exact hk z hz) hx hy)⟩⟩⟩
theorem Fl.heap {w : World} {g : Nat} {cs : Array Value} {t : TypeId} {fr : Nat × Nat} (h : w.heap[g]? = some (.cells cs t fr)) : Fl w g cs.toList := by
  refine ⟨(Array.getElem?_eq_some_iff.1 h).1, fun j v hv => ?_⟩
  have : w.cell? ⟨g, j, none⟩ = cs[j]? := by simp [World.cell?, h]
  rw [this]
  simpa using hv
theorem LAt.nil {T : Type} (w : World) (k : Nat) (c : T → List Value) : LAt w k c (.slice none 0 0) [] := ⟨KAt.nil w k⟩

/-- the example in memory -/
structure ExB (w : World) (n : Nat) : Prop where
  cur : Fl w (n + 2) (EX.cur.map cStr).flatten
  cities : Fl w (n + 3) (EX.cities.map cCty).flatten
  groups : Fl w (n + 4) (EX.groups.map cInt).flatten
  firms : Fl w (n + 5) (EX.firms.map cFrm).flatten
  orders : Fl w (n + 6) (EX.orders.map cOdr).flatten
theorem ExB.next {w w' : World} {n : Nat} (h : ExB w n) (hb : Below w.heap.size w w') : ExB w' n :=
  ⟨h.cur.next hb, h.cities.next hb, h.groups.next hb, h.firms.next hb, h.orders.next hb⟩
abbrev blk (n i : Nat) : Option Addr := some ⟨n + i, 0, none⟩
theorem ExB.rs {w : World} {n : Nat} (h : ExB w n) : RS w (blk n 2) (blk n 3) (blk n 4) (blk n 5) (blk n 6) none none none 1 1 1 2 1 0 0 0 EX := by
  refine ⟨h.cur.row (fun _ _ => rfl) (Nat.le_refl _), h.cities.row (fun _ _ => rfl) (Nat.le_refl _), h.groups.row (fun _ _ => rfl) (Nat.le_refl _), h.firms.row (fun _ _ => rfl) (Nat.le_refl _), h.orders.row (fun _ _ => rfl) (Nat.le_refl _), LAt.nil _ _ _, LAt.nil _ _ _, LAt.nil _ _ _, ?_, ?_⟩
  · intro c hc
    simp only [EX, List.mem_cons, List.not_mem_nil, or_false] at hc
    subst hc
    exact ⟨LAt.nil _ _ _, LAt.nil _ _ _, LAt.nil _ _ _⟩
  · intro o ho
    simp only [EX, List.mem_cons, List.not_mem_nil, or_false] at ho
    subst ho
    exact ⟨LAt.nil _ _ _, LAt.nil _ _ _⟩
theorem ez_rs (w : World) : RS w none none none none none none none none 0 0 0 0 0 0 0 0 EZ :=
  ⟨LAt.nil _ _ _, LAt.nil _ _ _, LAt.nil _ _ _, LAt.nil _ _ _, LAt.nil _ _ _, LAt.nil _ _ _, LAt.nil _ _ _, LAt.nil _ _ _, fun c hc => (by cases hc), fun o ho => (by cases ho)⟩
end Go.Proofs.YtcjakgpmompaiaaGreatDoor

/-
  The example of the laws in memory.
-/
namespace Go.Proofs.YtcjakgpmompaiaaGreatDoor
open Go.RowKit Rl Wd

/-- the blocks that the example makes -/
def exO (n : Nat) : List Obj := [
  .cells #[.slice (some ⟨n + 2, 0, none⟩) 1 1, .slice (some ⟨n + 3, 0, none⟩) 1 1, .slice (some ⟨n + 4, 0, none⟩) 1 1, .slice (some ⟨n + 5, 0, none⟩) 2 2, .slice (some ⟨n + 6, 0, none⟩) 1 1, .slice none 0 0, .slice none 0 0, .slice none 0 0] 31,
  .cells #[.int .i64 0, .int .i64 1, .int .i64 (-1), .int .i64 500, .int .i64 0, .int .i64 0, .int .i64 0, .int .i64 0, .int .i64 59, .int .i64 0, .int .i64 0, .int .i64 (-1), .int .i64 0, .int .i64 1, .int .i64 2] 35,
  .cells #[.string sFranc] 9,
  .cells #[.string sLyon, .int .i64 0, .int .i64 0, .slice none 0 0, .slice none 0 0, .slice none 0 0] 75,
  .cells #[.int .i64 3] 81,
  .cells #[.string sBodmer, .int .i64 0, .int .i64 0, .string sHope, .int .i64 0, .int .i64 0] 78,
  .cells #[.string sGeneva, .bool false, .slice none 0 0, .slice none 0 0] 85,
  .cells #[.slice (some ⟨n + 2, 0, none⟩) 1 1, .slice (some ⟨n + 3, 0, none⟩) 1 1, .slice (some ⟨n + 4, 0, none⟩) 1 1, .slice (some ⟨n + 5, 0, none⟩) 2 2, .slice (some ⟨n + 6, 0, none⟩) 1 1, .slice none 0 0, .slice none 0 0, .slice none 0 0] 31,
  .cells #[.int .i64 0, .int .i64 1, .int .i64 (-1), .int .i64 500, .int .i64 0, .int .i64 0, .int .i64 0, .int .i64 0, .int .i64 59, .int .i64 0, .int .i64 0, .int .i64 (-1), .int .i64 0, .int .i64 1, .int .i64 2] 35]
def exW (w : World) : World := ((exO w.heap.size).foldl World.alloc w).drew
theorem fold_heap : ∀ (l : List Obj) (w : World), (l.foldl World.alloc w).heap = w.heap ++ l.toArray
  | [], w => by simp
  | o :: l, w => by
    rw [List.foldl_cons, fold_heap l (w.alloc o)]
    show w.heap.push o ++ l.toArray = _
    simp
theorem fold_below : ∀ (l : List Obj) (w : World), Below w.heap.size w (l.foldl World.alloc w)
  | [], _ => Below.refl _ _
  | o :: l, w => chain (Below.new1 o) (fold_below l (w.alloc o))
theorem exW_heap (w : World) (i : Nat) (o : Obj) (h : (exO w.heap.size)[i]? = some o) : (exW w).heap[w.heap.size + i]? = some o := by
  have e : (exW w).heap = ((exO w.heap.size).foldl World.alloc w).heap := rfl
  rw [e, fold_heap, Array.getElem?_append_right (by omega), Nat.add_sub_cancel_left]
  simpa using h
theorem ex_below (w : World) : Below w.heap.size w (exW w) := (fold_below _ _).drew
theorem ex_at (w : World) : ExB (exW w) w.heap.size :=
  ⟨Fl.heap (exW_heap w 2 _ rfl), Fl.heap (exW_heap w 3 _ rfl), Fl.heap (exW_heap w 4 _ rfl), Fl.heap (exW_heap w 5 _ rfl), Fl.heap (exW_heap w 6 _ rfl)⟩
set_option maxHeartbeats 3200000 in
set_option maxRecDepth 100000 in
theorem example_x (w : World) :
    Calls Tryz.prog 19 #[] w fun r w' => r = .returned (.tuple #[.agg #[.slice (blk w.heap.size 2) 1 1, .slice (blk w.heap.size 3) 1 1, .slice (blk w.heap.size 4) 1 1, .slice (blk w.heap.size 5) 2 2, .slice (blk w.heap.size 6) 1 1, .slice none 0 0, .slice none 0 0, .slice none 0 0], vB (eB 0 2)]) ∧ ExB w' w.heap.size ∧ Below w.heap.size w w' := by
  go_enter Tryz.func19, Tryz.ntmps19
  go_wp2_with fail
  go_region
  all_goals go_wp2
  have q0 := Fl.heap (exW_heap w 0 _ rfl)
  have q1 := Fl.heap (exW_heap w 1 _ rfl)
  have a0 : (exW w).cell? ⟨w.heap.size, 0, none⟩ = _ := q0.2 0 _ rfl
  have a1 : (exW w).cell? ⟨w.heap.size, 1, none⟩ = _ := q0.2 1 _ rfl
  have a2 : (exW w).cell? ⟨w.heap.size, 2, none⟩ = _ := q0.2 2 _ rfl
  have a3 : (exW w).cell? ⟨w.heap.size, 3, none⟩ = _ := q0.2 3 _ rfl
  have a4 : (exW w).cell? ⟨w.heap.size, 4, none⟩ = _ := q0.2 4 _ rfl
  have a5 : (exW w).cell? ⟨w.heap.size, 5, none⟩ = _ := q0.2 5 _ rfl
  have a6 : (exW w).cell? ⟨w.heap.size, 6, none⟩ = _ := q0.2 6 _ rfl
  have a7 : (exW w).cell? ⟨w.heap.size, 7, none⟩ = _ := q0.2 7 _ rfl
  have b0 : (exW w).cell? ⟨w.heap.size + 1, 0, none⟩ = _ := q1.2 0 _ rfl
  have b1 : (exW w).cell? ⟨w.heap.size + 1, 1, none⟩ = _ := q1.2 1 _ rfl
  have b2 : (exW w).cell? ⟨w.heap.size + 1, 2, none⟩ = _ := q1.2 2 _ rfl
  have b3 : (exW w).cell? ⟨w.heap.size + 1, 3, none⟩ = _ := q1.2 3 _ rfl
  have b4 : (exW w).cell? ⟨w.heap.size + 1, 4, none⟩ = _ := q1.2 4 _ rfl
  have b5 : (exW w).cell? ⟨w.heap.size + 1, 5, none⟩ = _ := q1.2 5 _ rfl
  have b6 : (exW w).cell? ⟨w.heap.size + 1, 6, none⟩ = _ := q1.2 6 _ rfl
  have b7 : (exW w).cell? ⟨w.heap.size + 1, 7, none⟩ = _ := q1.2 7 _ rfl
  have b8 : (exW w).cell? ⟨w.heap.size + 1, 8, none⟩ = _ := q1.2 8 _ rfl
  have b9 : (exW w).cell? ⟨w.heap.size + 1, 9, none⟩ = _ := q1.2 9 _ rfl
  have b10 : (exW w).cell? ⟨w.heap.size + 1, 10, none⟩ = _ := q1.2 10 _ rfl
  have b11 : (exW w).cell? ⟨w.heap.size + 1, 11, none⟩ = _ := q1.2 11 _ rfl
  have b12 : (exW w).cell? ⟨w.heap.size + 1, 12, none⟩ = _ := q1.2 12 _ rfl
  have b13 : (exW w).cell? ⟨w.heap.size + 1, 13, none⟩ = _ := q1.2 13 _ rfl
  have b14 : (exW w).cell? ⟨w.heap.size + 1, 14, none⟩ = _ := q1.2 14 _ rfl
  clear q0 q1
  refine bodyPost_ret (v := .tuple #[.agg #[.slice (blk w.heap.size 2) 1 1, .slice (blk w.heap.size 3) 1 1, .slice (blk w.heap.size 4) 1 1, .slice (blk w.heap.size 5) 2 2, .slice (blk w.heap.size 6) 1 1, .slice none 0 0, .slice none 0 0, .slice none 0 0], vB (eB 0 2)]) ?_ rfl ?_
  · show (results _ _).run _ (exW w) = _
    simp [results, Tryz.results19, go_sem, a0, a1, a2, a3, a4, a5, a6, a7, b0, b1, b2, b3, b4, b5, b6, b7, b8, b9, b10, b11, b12, b13, b14, eB]
    rfl
  · exact ⟨rfl, ex_at w, ex_below w⟩
end Go.Proofs.YtcjakgpmompaiaaGreatDoor

