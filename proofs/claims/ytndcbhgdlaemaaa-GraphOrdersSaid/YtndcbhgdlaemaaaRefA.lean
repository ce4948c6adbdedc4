/-
  Graphs in memory; the reference's Right and Edge; equal lists.
-/
import Derived.Test.YtndcbhgdlaemaaaGrB
import Derived.Test.YtndcbhgdlaemaaaGrC
import Derived.Test.YtndcbhgdlaemaaaGrD
import Derived.Test.YtndcbhgdlaemaaaGrE
import Derived.Test.YtndcbhgdlaemaaaProg
import Derived.WalkKit
import Derived.WalkSpells
import Derived.WalkLawsBesides
import Derived.Lib.Hide
import Derived.IntWalk
import Derived.OwnWalk
import Derived.Deep.DeepCutAuto
import Derived.RegionTactic
import Derived.Deep.QuietTactic
import Derived.BigQuiet
import Derived.Laws.OwnMore
namespace Go.Proofs.Ytndcbhgdlaemaaa
open Go.RowKit Gr

def I64 (n : Int) : Prop := -9223372036854775808 ≤ n ∧ n ≤ 9223372036854775807
theorem below_drewN {B : Nat} {a w : World} (h : Below B a w) (n : Nat) : Below B a (w.drewN n) := ⟨h.os, h.tape, h.output, h.size, h.block⟩
theorem chain {W a b : World} (h : Below W.heap.size W a) (k : Below a.heap.size a b) : Below W.heap.size W b := h.trans (k.mono h.size)

/-- a slice value reads as a list of edges -/
def EAt (w : World) (v : Value) (e : E) : Prop := ∃ a cap, v = .slice a e.length cap ∧ e.length ≤ cap ∧ ∀ (j : Nat) (p : Int × Int), e[j]? = some p → ∃ b off, a = some ⟨b, off, none⟩ ∧ b < w.heap.size ∧
  w.cell? ⟨b, off + j * 2, none⟩ = some (.int .i64 p.1) ∧ w.cell? ⟨b, off + j * 2 + 1, none⟩ = some (.int .i64 p.2)
theorem EAt.below {w w' : World} {v : Value} {e : E} {B : Nat} (h : EAt w v e) (hb : Below B w w') (hB : w.heap.size ≤ B) : EAt w' v e := by
  obtain ⟨a, cap, rfl, hcap, h⟩ := h
  refine ⟨a, cap, rfl, hcap, fun j t ht => ?_⟩
  obtain ⟨b, off, e, hlt, h0, h1⟩ := h j t ht
  have hc : ∀ o, w'.cell? ⟨b, o, none⟩ = w.cell? ⟨b, o, none⟩ := fun o => hb.cell (p := ⟨b, o, none⟩) (by show b < B; omega)
  refine ⟨b, off, e, by have := hb.size; omega, ?_, ?_⟩ <;> rw [hc] <;> assumption
/-- a slice value reads as a list of values of one cell -/
def SAt (w : World) (v : Value) (l : List Value) : Prop := ∃ a cap, v = .slice a l.length cap ∧ l.length ≤ cap ∧ ∀ (j : Nat) (x : Value), l[j]? = some x → ∃ b off, a = some ⟨b, off, none⟩ ∧ b < w.heap.size ∧ w.cell? ⟨b, off + j, none⟩ = some x
theorem SAt.below {w w' : World} {v : Value} {l : List Value} {B : Nat} (h : SAt w v l) (hb : Below B w w') (hB : w.heap.size ≤ B) : SAt w' v l := by
  obtain ⟨a, cap, rfl, hcap, h⟩ := h
  refine ⟨a, cap, rfl, hcap, fun j t ht => ?_⟩
  obtain ⟨b, off, e, hlt, h0⟩ := h j t ht
  exact ⟨b, off, e, by have := hb.size; omega, by rw [hb.cell (p := ⟨b, off + j, none⟩) (by show b < B; omega)]; exact h0⟩
abbrev ints (l : List Int) : List Value := l.map (Value.int .i64)
abbrev bools (l : List Bool) : List Value := l.map Value.bool
/-- a slice value reads as a list of lists of ints -/
def LAt (w : World) (v : Value) (L : List (List Int)) : Prop := ∃ vs : List Value, SAt w v vs ∧ vs.length = L.length ∧ ∀ (i : Nat) (x : Value) (l : List Int), vs[i]? = some x → L[i]? = some l → SAt w x (ints l)
theorem LAt.below {w w' : World} {v : Value} {L : List (List Int)} {B : Nat} (h : LAt w v L) (hb : Below B w w') (hB : w.heap.size ≤ B) : LAt w' v L := by
  obtain ⟨vs, h1, h2, h3⟩ := h
  exact ⟨vs, h1.below hb hB, h2, fun i x l hx hl => (h3 i x l hx hl).below hb hB⟩
/-- a block of the call's own, of one-cell values -/
structure Row (w : World) (g : Nat) (l : List Value) : Prop where
  lt : g < w.heap.size
  c : ∀ j v, l[j]? = some v → w.cell? ⟨g, j, none⟩ = some v
  fz : ∀ j, j < l.length → w.frozen? ⟨g, j, none⟩ = false
theorem Row.below {w w' : World} {g B : Nat} {l : List Value} (h : Row w g l) (hb : Below B w w') (hB : g < B) : Row w' g l := by
  refine ⟨Nat.lt_of_lt_of_le h.lt hb.size, fun j v hv => ?_, fun j hj => ?_⟩
  · rw [hb.cell (p := ⟨g, j, none⟩) hB]; exact h.c j v hv
  · rw [hb.frozen (p := ⟨g, j, none⟩) hB]; exact h.fz j hj
theorem Row.set {w : World} {g : Nat} {l : List Value} (h : Row w g l) (k : Nat) (v : Value) (hk : k < l.length) : Row (w.setCell ⟨g, k, none⟩ v) g (l.set k v) := by
  have hc := h.c k _ (List.getElem?_eq_getElem hk)
  refine ⟨by simpa using h.lt, fun j u hu => ?_, fun j hj => by simpa using h.fz j (by simpa using hj)⟩
  rw [List.getElem?_set] at hu
  by_cases hjk : k = j
  · subst hjk
    rw [if_pos rfl, if_pos hk] at hu
    simp only [Option.some.injEq] at hu
    subst hu
    exact World.cell?_setCell_same _ _ _ hc
  · rw [if_neg hjk] at hu
    rw [World.cell?_setCell_other _ _ _ _ (by intro e; injection e with _ e _; exact hjk e)]
    exact h.c j u hu
theorem Row.at {w : World} {g : Nat} {l : List Value} (h : Row w g l) {n cap : Nat} (hn : n = l.length) (hc : n ≤ cap) : SAt w (.slice (some ⟨g, 0, none⟩) n cap) l := by
  subst hn
  exact ⟨_, cap, rfl, hc, fun j x hx => ⟨g, 0, rfl, h.lt, by rw [Nat.zero_add]; exact h.c j x hx⟩⟩
theorem Row.own {w : World} {base g n cap : Nat} {T : TypeId} {l : List Value} (h : w.ownsRow base T 1 (.slice (some ⟨g, 0, none⟩) n cap) n l) (hl : n = l.length) : Row w g l :=
  ⟨(h.lt g rfl).2, fun j v hv => by
    have hj := (List.getElem?_eq_some_iff.1 hv).1
    rw [h.cellAt j (by omega)]
    exact hv, fun j _ => h.frozenAt j⟩
/-- what the call owns reads as a list -/
theorem SAt.own {w : World} {base n : Nat} {T : TypeId} {v : Value} {l : List Value} (h : w.ownsRow base T 1 v n l) (hn : n = l.length) : SAt w v l := by
  subst hn
  rcases h.2 with ⟨rfl, h0⟩ | ⟨g, cap, cur, rfl, hg, hh, h1, h2, h3, h4⟩
  · exact ⟨none, 0, by rw [h0], by omega, fun j r hj => by
      have := (List.getElem?_eq_some_iff.1 hj).1
      omega⟩
  · exact (Row.own h rfl).at rfl h1

theorem right_not {n : Int} {e : E} (h : ¬ ((0 ≤ n ∧ n ≤ 300) ∧ e.length ≤ 2000 ∧ e.all (okE n) = true)) : rightB n e = false := by
  rw [← Bool.not_eq_true]
  intro hr
  unfold rightB at hr
  rw [Bool.and_eq_true, Bool.and_eq_true, decide_eq_true_iff, decide_eq_true_iff] at hr
  exact h hr
theorem right_yes {n : Int} {e : E} (h1 : 0 ≤ n ∧ n ≤ 300) (h2 : e.length ≤ 2000) (h3 : e.all (okE n) = true) : rightB n e = true := by
  unfold rightB
  rw [h3, decide_eq_true h1, decide_eq_true h2]
  rfl
theorem all_next {n : Int} {e : E} {k : Nat} {p : Int × Int} (h : e[k]? = some p) (ha : (e.take k).all (okE n) = true) (hr : okE n p = true) : (e.take (k + 1)).all (okE n) = true := by
  rw [List.take_add_one, h, List.all_append, ha]
  simp [hr]
theorem all_not {n : Int} {e : E} {k : Nat} {p : Int × Int} (h : e[k]? = some p) (hr : okE n p = false) : e.all (okE n) = false := by
  rw [← Bool.not_eq_true, List.all_eq_true]
  intro ha
  have := ha p (List.mem_of_getElem? h)
  rw [hr] at this
  cases this
def RRel (n : Int) (e : E) (w : World) (i : Value) (wr : World) : Prop := ∃ k : Nat, k ≤ e.length ∧ i = .int .i64 (k : Int) ∧ (e.take k).all (okE n) = true ∧ w = wr

set_option maxHeartbeats 3200000 in
theorem Right_x (v : Value) (n : Int) (e : E) (w : World) (hat : EAt w v e) (hl : e.length ≤ 1152921504606846976) :
    Calls Try.prog 28 #[.int .i64 n, v] w fun r w' => r = .returned (.bool (rightB n e)) ∧ w = w' := by
  obtain ⟨a, cap, rfl, -, hc⟩ := hat
  have HC := Lib.hid hc
  clear hc
  by_cases n0 : n < 0
  · have hv : Hid (rightB n e = false) := right_not (by omega)
    go_enter Try.func28, Try.ntmps28
    go_wp2_with fail
    go_ret
    exact ⟨by rw [hv.out]; try rfl, rfl⟩
  by_cases n1 : 300 < n
  · have hv : Hid (rightB n e = false) := right_not (by omega)
    go_enter Try.func28, Try.ntmps28
    go_wp2_with fail
    go_ret
    exact ⟨by rw [hv.out]; try rfl, rfl⟩
  by_cases h20 : 2000 < e.length
  · have hv : Hid (rightB n e = false) := right_not (by omega)
    go_enter Try.func28, Try.ntmps28
    go_wp2_with fail
    go_ret
    exact ⟨by rw [hv.out]; try rfl, rfl⟩
  go_enter Try.func28, Try.ntmps28
  go_wp2_with fail
  go_loopw [5] (fun i wr => RRel n e w i wr) (fun i _ => e.length - (intOf i).toNat)
  case atStart => exact ⟨0, Nat.zero_le _, rfl, by simp, rfl⟩
  case round =>
    obtain ⟨k, hk, rfl, hall, rfl⟩ := hrel
    have Ha := Lib.hid hall
    clear hall
    have k0 : (0 : Int) ≤ (k : Int) := by omega
    by_cases c : k < e.length
    case neg =>
      have c0 : ¬ (k : Int) < (e.length : Int) := by omega
      have hv : Hid (rightB n e = true) := by
        have h := Ha.out
        rw [List.take_of_length_le (by omega)] at h
        exact right_yes (by omega) (by omega) h
      go_wp2_with fail
      go_ret
      exact ⟨by rw [hv.out]; try rfl, rfl⟩
    case pos =>
      obtain ⟨p, hp⟩ : ∃ p, e[k]? = some p := ⟨e[k], List.getElem?_eq_getElem c⟩
      obtain ⟨b, off, rfl, hb, p0, p1⟩ := HC.out k p hp
      have c0 : (k : Int) < (e.length : Int) := by omega
      have Hp := Lib.hid hp
      clear hp
      by_cases e1 : p.1 < 0
      · have hv : Hid (rightB n e = false) := right_not (fun h => by have := all_not Hp.out (show okE n p = false from decide_eq_false (by omega)); rw [this] at h; exact Bool.false_ne_true h.2.2)
        go_wp2_with fail
        go_ret
        exact ⟨by rw [hv.out]; try rfl, rfl⟩
      by_cases e2 : n ≤ p.1
      · have hv : Hid (rightB n e = false) := right_not (fun h => by have := all_not Hp.out (show okE n p = false from decide_eq_false (by omega)); rw [this] at h; exact Bool.false_ne_true h.2.2)
        go_wp2_with fail
        go_ret
        exact ⟨by rw [hv.out]; try rfl, rfl⟩
      by_cases e3 : p.2 < 0
      · have hv : Hid (rightB n e = false) := right_not (fun h => by have := all_not Hp.out (show okE n p = false from decide_eq_false (by omega)); rw [this] at h; exact Bool.false_ne_true h.2.2)
        go_wp2_with fail
        go_ret
        exact ⟨by rw [hv.out]; try rfl, rfl⟩
      by_cases e4 : n ≤ p.2
      · have hv : Hid (rightB n e = false) := right_not (fun h => by have := all_not Hp.out (show okE n p = false from decide_eq_false (by omega)); rw [this] at h; exact Bool.false_ne_true h.2.2)
        go_wp2_with fail
        go_ret
        exact ⟨by rw [hv.out]; try rfl, rfl⟩
      have Hn : Hid ((e.take (k + 1)).all (okE n) = true) := all_next Hp.out Ha.out (decide_eq_true ⟨⟨by omega, by omega⟩, by omega, by omega⟩)
      go_wp2_with fail
      go_roundw
      case rel => exact ⟨k + 1, by omega, by congr 1, Hn.out, rfl⟩
      case measure => simp [intOf]; omega

def DRel (e : E) (a b : Int) (w : World) (i : Value) (wr : World) : Prop := ∃ k : Nat, k ≤ e.length ∧ i = .int .i64 (k : Int) ∧ edgeB (e.take k) a b = false ∧ w = wr
theorem edge_next {e : E} {a b : Int} {k : Nat} {p : Int × Int} (h : e[k]? = some p) (ha : edgeB (e.take k) a b = false) (hp : ¬ (p.1 = a ∧ p.2 = b)) : edgeB (e.take (k + 1)) a b = false := by
  unfold edgeB at *
  rw [List.take_add_one, h, List.any_append, ha]
  simp
  exact fun h1 h2 => hp ⟨h1, h2⟩
theorem edge_here {e : E} {a b : Int} {k : Nat} {p : Int × Int} (h : e[k]? = some p) (h1 : p.1 = a) (h2 : p.2 = b) : edgeB e a b = true := edgeB_iff.2 (by rw [← h1, ← h2]; exact List.mem_of_getElem? h)

set_option maxHeartbeats 3200000 in
theorem Edge_x (v : Value) (a b : Int) (e : E) (w : World) (hat : EAt w v e) (hl : e.length ≤ 1152921504606846976) :
    Calls Try.prog 24 #[v, .int .i64 a, .int .i64 b] w fun r w' => r = .returned (.bool (edgeB e a b)) ∧ w = w' := by
  obtain ⟨ad, cap, rfl, -, hc⟩ := hat
  have HC := Lib.hid hc
  clear hc
  go_enter Try.func24, Try.ntmps24
  go_wp2_with fail
  go_loopw [7] (fun i wr => DRel e a b w i wr) (fun i _ => e.length - (intOf i).toNat)
  case atStart => exact ⟨0, Nat.zero_le _, rfl, by simp [edgeB], rfl⟩
  case round =>
    obtain ⟨k, hk, rfl, hall, rfl⟩ := hrel
    have Ha := Lib.hid hall
    clear hall
    have k0 : (0 : Int) ≤ (k : Int) := by omega
    by_cases c : k < e.length
    case neg =>
      have c0 : ¬ (k : Int) < (e.length : Int) := by omega
      have hv : Hid (edgeB e a b = false) := by
        have h := Ha.out
        rw [List.take_of_length_le (by omega)] at h
        exact h
      go_wp2_with fail
      go_ret
      exact ⟨by rw [hv.out]; try rfl, rfl⟩
    case pos =>
      obtain ⟨p, hp⟩ : ∃ p, e[k]? = some p := ⟨e[k], List.getElem?_eq_getElem c⟩
      obtain ⟨g, off, rfl, hb, p0, p1⟩ := HC.out k p hp
      have c0 : (k : Int) < (e.length : Int) := by omega
      have Hp := Lib.hid hp
      clear hp
      by_cases e1 : p.1 = a
      · have f1 : (p.1 == a) = true := by simp [e1]
        by_cases e2 : p.2 = b
        · have f2 : (p.2 == b) = true := by simp [e2]
          have hv : Hid (edgeB e a b = true) := edge_here Hp.out e1 e2
          clear e1 e2
          go_wp2_with fail
          go_ret
          exact ⟨by rw [hv.out]; try rfl, rfl⟩
        · have f2 : (p.2 == b) = false := by simp [e2]
          have Hn : Hid (edgeB (e.take (k + 1)) a b = false) := edge_next Hp.out Ha.out (fun h => e2 h.2)
          clear e1 e2
          go_wp2_with fail
          go_roundw
          case rel => exact ⟨k + 1, by omega, by congr 1, Hn.out, rfl⟩
          case measure => simp [intOf]; omega
      · have f1 : (p.1 == a) = false := by simp [e1]
        have Hn : Hid (edgeB (e.take (k + 1)) a b = false) := edge_next Hp.out Ha.out (fun h => e1 h.1)
        clear e1
        go_wp2_with fail
        go_roundw
        case rel => exact ⟨k + 1, by omega, by congr 1, Hn.out, rfl⟩
        case measure => simp [intOf]; omega

end Go.Proofs.Ytndcbhgdlaemaaa
