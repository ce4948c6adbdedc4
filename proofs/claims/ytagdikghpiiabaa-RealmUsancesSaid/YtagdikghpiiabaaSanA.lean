/-
  The example of the laws: its realm, plain and in memory.
-/
import Derived.Test.YtagdikghpiiabaaRefI
import Derived.Laws.Rows
import Derived.KernelRfl
namespace Go.Proofs.Ytagdikghpiiabaa
open Go.RowKit Rl

def sFranc : B := ⟨#[102, 114, 97, 110, 99]⟩
def sLyon : B := ⟨#[76, 121, 111, 110]⟩
def sLondon : B := ⟨#[76, 111, 110, 100, 111, 110]⟩
def sBodmer : B := ⟨#[66, 111, 100, 109, 101, 114]⟩
def sHope : B := ⟨#[72, 111, 112, 101]⟩
def s2nd : B := ⟨#[50, 110, 100]⟩
def sGeneva : B := ⟨#[103, 101, 110, 101, 118, 97]⟩
def sLondon2 : B := ⟨#[108, 111, 110, 100, 111, 110]⟩
/-- the example, with its second firm's name and the rest days of its first city (in block q) -/
def EX (n q : Nat) (s : B) (x y : Int) : Rlm where
  cur := [sFranc]
  cities := [⟨sLyon, 0, 0, some ⟨q, 0, none⟩, none, none, 2, 0, 0, [x, y], [], []⟩, ⟨sLondon, 1, 0, some ⟨n + 3, 0, none⟩, none, none, 1, 0, 0, [6], [], []⟩]
  groups := [3]
  firms := [⟨sBodmer, 0, 0⟩, ⟨s, 1, 0⟩]
  orders := [⟨sGeneva, false, none, none, 0, 0, [], []⟩, ⟨sLondon2, false, none, none, 0, 0, [], []⟩]
  usances := [⟨0, 1, 60⟩]
  rates := []
  halts := []
theorem ex_ok (n q : Nat) : checkP (EX n q sHope 5 6) = 0 := by kernel_rfl
theorem ex_twice (n q : Nat) : checkP (EX n q sBodmer 5 6) = 5 := by kernel_rfl
theorem ex_form (n q : Nat) : checkP (EX n q s2nd 5 6) = 2 := by kernel_rfl
theorem ex_arg (n q : Nat) : checkP (EX n q sHope 6 5) = 1 := by kernel_rfl
theorem ex_us1 (n q : Nat) : usAt (EX n q sHope 5 6) 0 1 = (60, 0) := by kernel_rfl
theorem ex_us2 (n q : Nat) : usAt (EX n q sHope 5 6) 1 0 = (0, 4) := by kernel_rfl
theorem ex_at1 (n q : Nat) : orderAt (EX n q sHope 5 6) 1 = 1 := by kernel_rfl
theorem ex_at2 (n q : Nat) : orderAt (EX n q sHope 5 6) 2 = -1 := by kernel_rfl
theorem ex_mem (n q : Nat) : memP (EX n q sHope 5 6).firms 0 = [0, 1] := by kernel_rfl
theorem ex_grade (n q : Nat) : gradeP (EX n q sHope 5 6) 1 = 3 := by kernel_rfl
theorem ex_firm (n q : Nat) : findV ((EX n q sHope 5 6).firms.map Frm.nm) sHope = 1 := by kernel_rfl
theorem ex_city (n q : Nat) : findV ((EX n q sHope 5 6).cities.map Cty.nm) sHope = -1 := by kernel_rfl
theorem ex_fit (n q : Nat) (s : B) (x y : Int) : Fit (EX n q s x y) := by
  refine ⟨⟨?_, ?_, ?_, ?_, ?_, ?_, ?_, ?_, ?_, ?_⟩, ?_, ?_, ?_, ?_, ?_, ?_, ?_, ?_, ?_⟩
  all_goals first | decide | (simp [EX, Sz]; done)
/-- a block that holds those values -/
def Fl (w : World) (g : Nat) (vs : List Value) : Prop := g < w.heap.size ∧ ∀ (j : Nat) (v : Value), vs[j]? = some v → w.cell? ⟨g, j, none⟩ = some v
theorem Fl.next {w w' : World} {g : Nat} {vs : List Value} (h : Fl w g vs) (hb : Below w.heap.size w w') : Fl w' g vs := ⟨lt_up hb h.1, fun j v hv => cell_up hb (h.2 j v hv)⟩
theorem flat_get : ∀ (l : List (List Value)) (k j i : Nat) (x : List Value) (y : Value), (∀ r ∈ l, r.length = k) → l[j]? = some x → x[i]? = some y → l.flatten[j * k + i]? = some y
  | [], _, _, _, _, _, _, h, _ => by simp at h
  | r :: l, k, 0, i, x, y, hk, h, hy => by
    simp only [List.getElem?_cons_zero, Option.some.injEq] at h
    subst h
    have hi := (List.getElem?_eq_some_iff.1 hy).1
    rw [List.flatten_cons, Nat.zero_mul, Nat.zero_add, List.getElem?_append_left hi]
    exact hy
  | r :: l, k, j + 1, i, x, y, hk, h, hy => by
    rw [List.getElem?_cons_succ] at h
    have hr := hk r (by simp)
    rw [List.flatten_cons, List.getElem?_append_right (by rw [hr, Nat.succ_mul]; omega), hr, show (j + 1) * k + i - k = j * k + i by rw [Nat.succ_mul]; omega]
    exact flat_get l k j i x y (fun r h => hk r (by simp [h])) h hy
theorem Fl.row {T : Type} {w : World} {g k cap : Nat} {c : T → List Value} {l : List T} (h : Fl w g (l.map c).flatten) (hk : ∀ x ∈ l, (c x).length = k) (hc : l.length ≤ cap) : LAt w k c (.slice (some ⟨g, 0, none⟩) l.length cap) l :=
  ⟨⟨some ⟨g, 0, none⟩, cap, by rw [List.length_map], by rw [List.length_map]; exact hc, fun j x hx => ⟨g, 0, rfl, h.1, fun i y hy => by
    rw [Nat.zero_add]
    exact h.2 _ _ (flat_get _ k j i x y (fun r hr => by obtain ⟨z, hz, rfl⟩ := List.mem_map.1 hr; exact hk z hz) hx hy)⟩⟩⟩
theorem Fl.heap {w : World} {g : Nat} {cs : Array Value} {t : TypeId} {fr : Nat × Nat} (h : w.heap[g]? = some (.cells cs t fr)) : Fl w g cs.toList := by
  refine ⟨(Array.getElem?_eq_some_iff.1 h).1, fun j v hv => ?_⟩
  have : w.cell? ⟨g, j, none⟩ = cs[j]? := by simp [World.cell?, h]
  rw [this]
  simpa using hv
/-- the example in memory -/
structure ExB (w : World) (n q : Nat) (s : B) (x y : Int) : Prop where
  cur : Fl w (n + 1) ((EX n q s x y).cur.map cStr).flatten
  r1 : Fl w q (([x, y] : List Int).map cInt).flatten
  r2 : Fl w (n + 3) (([6] : List Int).map cInt).flatten
  cities : Fl w (n + 4) ((EX n q s x y).cities.map cCty).flatten
  groups : Fl w (n + 5) ((EX n q s x y).groups.map cInt).flatten
  firms : Fl w (n + 6) ((EX n q s x y).firms.map cFrm).flatten
  orders : Fl w (n + 7) ((EX n q s x y).orders.map cOdr).flatten
  usances : Fl w (n + 8) ((EX n q s x y).usances.map cUsn).flatten
theorem ExB.next {w w' : World} {n q : Nat} {s : B} {x y : Int} (h : ExB w n q s x y) (hb : Below w.heap.size w w') : ExB w' n q s x y :=
  ⟨h.cur.next hb, h.r1.next hb, h.r2.next hb, h.cities.next hb, h.groups.next hb, h.firms.next hb, h.orders.next hb, h.usances.next hb⟩
theorem LAt.nil {T : Type} (w : World) (k : Nat) (c : T → List Value) : LAt w k c (.slice none 0 0) [] := ⟨KAt.nil w k⟩
abbrev blk (n i : Nat) : Option Addr := some ⟨n + i, 0, none⟩
theorem ExB.rs {w : World} {n q : Nat} {s : B} {x y : Int} (h : ExB w n q s x y) : RS w (blk n 1) (blk n 4) (blk n 5) (blk n 6) (blk n 7) (blk n 8) none none 1 2 1 2 2 1 0 0 (EX n q s x y) := by
  refine ⟨h.cur.row (fun _ _ => rfl) (Nat.le_refl _), h.cities.row (fun _ _ => rfl) (Nat.le_refl _), h.groups.row (fun _ _ => rfl) (Nat.le_refl _), h.firms.row (fun _ _ => rfl) (Nat.le_refl _), h.orders.row (fun _ _ => rfl) (Nat.le_refl _), h.usances.row (fun _ _ => rfl) (Nat.le_refl _), LAt.nil _ _ _, LAt.nil _ _ _, ?_, ?_⟩
  · intro c hc
    simp only [EX, List.mem_cons, List.not_mem_nil, or_false] at hc
    rcases hc with rfl | rfl
    · exact ⟨h.r1.row (fun _ _ => rfl) (Nat.le_refl _), LAt.nil _ _ _, LAt.nil _ _ _⟩
    · exact ⟨h.r2.row (fun _ _ => rfl) (Nat.le_refl _), LAt.nil _ _ _, LAt.nil _ _ _⟩
  · intro o ho
    simp only [EX, List.mem_cons, List.not_mem_nil, or_false] at ho
    rcases ho with rfl | rfl
    · exact ⟨LAt.nil _ _ _, LAt.nil _ _ _⟩
    · exact ⟨LAt.nil _ _ _, LAt.nil _ _ _⟩
/-- the blocks that the example makes -/
def exO (n : Nat) : List Obj := [
  .cells #[.slice (some ⟨n + 1, 0, none⟩) 1 1, .slice (some ⟨n + 4, 0, none⟩) 2 2, .slice (some ⟨n + 5, 0, none⟩) 1 1, .slice (some ⟨n + 6, 0, none⟩) 2 2, .slice (some ⟨n + 7, 0, none⟩) 2 2, .slice (some ⟨n + 8, 0, none⟩) 1 1, .slice none 0 0, .slice none 0 0] 31,
  .cells #[.string sFranc] 9,
  .cells #[.int .i64 5, .int .i64 6] 3,
  .cells #[.int .i64 6] 3,
  .cells #[.string sLyon, .int .i64 0, .int .i64 0, .slice (some ⟨n + 2, 0, none⟩) 2 2, .slice none 0 0, .slice none 0 0, .string sLondon, .int .i64 1, .int .i64 0, .slice (some ⟨n + 3, 0, none⟩) 1 1, .slice none 0 0, .slice none 0 0] 45,
  .cells #[.int .i64 3] 49,
  .cells #[.string sBodmer, .int .i64 0, .int .i64 0, .string sHope, .int .i64 1, .int .i64 0] 47,
  .cells #[.string sGeneva, .bool false, .slice none 0 0, .slice none 0 0, .string sLondon2, .bool false, .slice none 0 0, .slice none 0 0] 58,
  .cells #[.int .i64 0, .int .i64 1, .int .i64 60] 51]
def exW (w : World) : World := (exO w.heap.size).foldl World.alloc w
theorem fold_heap : ∀ (l : List Obj) (w : World), (l.foldl World.alloc w).heap = w.heap ++ l.toArray
  | [], w => by simp
  | o :: l, w => by
    rw [List.foldl_cons, fold_heap l (w.alloc o)]
    show w.heap.push o ++ l.toArray = _
    simp
theorem fold_below : ∀ (l : List Obj) (w : World), Below w.heap.size w (l.foldl World.alloc w)
  | [], _ => Below.refl _ _
  | o :: l, w => chain (Below.new1 o) (fold_below l (w.alloc o))
theorem ex_heap (w : World) (i : Nat) (o : Obj) (h : (exO w.heap.size)[i]? = some o) : (exW w).heap[w.heap.size + i]? = some o := by
  unfold exW
  rw [fold_heap, Array.getElem?_append_right (by omega), Nat.add_sub_cancel_left]
  simpa using h
theorem ex_size (w : World) : (exW w).heap.size = w.heap.size + 9 := by
  unfold exW
  rw [fold_heap]
  simp [exO]
theorem ex_below (w : World) : Below w.heap.size w (exW w) := fold_below _ _
theorem ex_at (w : World) : ExB (exW w) w.heap.size (w.heap.size + 2) sHope 5 6 :=
  ⟨Fl.heap (ex_heap w 1 _ rfl), Fl.heap (ex_heap w 2 _ rfl), Fl.heap (ex_heap w 3 _ rfl), Fl.heap (ex_heap w 4 _ rfl), Fl.heap (ex_heap w 5 _ rfl), Fl.heap (ex_heap w 6 _ rfl), Fl.heap (ex_heap w 7 _ rfl), Fl.heap (ex_heap w 8 _ rfl)⟩
theorem ex_fz (w : World) (i : Nat) (o : Nat) (h : i < 9) : (exW w).frozen? ⟨w.heap.size + i, o, none⟩ = false := by
  obtain ⟨ob, hob⟩ : ∃ ob, (exO w.heap.size)[i]? = some ob := ⟨_, List.getElem?_eq_getElem (by simp [exO]; omega)⟩
  have hh := ex_heap w i ob hob
  have hc : ∃ cs t, ob = .cells cs t (0, 0) := by
    have hm := List.mem_of_getElem? hob
    simp only [exO, List.mem_cons, List.not_mem_nil, or_false] at hm
    rcases hm with rfl | rfl | rfl | rfl | rfl | rfl | rfl | rfl | rfl <;> exact ⟨_, _, rfl⟩
  obtain ⟨cs, t, rfl⟩ := hc
  simp [World.frozen?, hh]
abbrev vEX (n : Nat) : Value := .agg #[.slice (blk n 1) 1 1, .slice (blk n 4) 2 2, .slice (blk n 5) 1 1, .slice (blk n 6) 2 2, .slice (blk n 7) 2 2, .slice (blk n 8) 1 1, .slice none 0 0, .slice none 0 0]
set_option maxHeartbeats 3200000 in
set_option maxRecDepth 100000 in
theorem example_x (w : World) (n : Nat) (hn : w.heap.size = n) :
    Calls Try.prog 25 #[] w fun r w' => r = .returned (.agg #[.slice (blk n 1) 1 1, .slice (blk n 4) 2 2, .slice (blk n 5) 1 1, .slice (blk n 6) 2 2, .slice (blk n 7) 2 2, .slice (blk n 8) 1 1, .slice none 0 0, .slice none 0 0]) ∧ w' = exW w := by
  subst hn
  have hh := ex_heap w 0 _ rfl
  have hi : (Try.prog.info? 31).map (·.size) = some 8 := by kernel_rfl
  have HH := Lib.hid hh
  clear hh
  go_enter Try.func25, Try.ntmps25
  go_wp2_with fail
  refine bodyPost_ret (v := .agg _) (results_cell_row rfl _ _ w.heap.size 31 _ (0, 0) _ rfl HH.out Try.underlying31 rfl hi) rfl ?_
  exact ⟨rfl, rfl⟩
end Go.Proofs.Ytagdikghpiiabaa
