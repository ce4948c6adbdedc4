/-
  What the laws of layer 4 ask of the program (CalOk), and the examples (small).
-/
import Derived.Test.YtmlelmknbddkjaaDoorCalF
import Derived.Test.YtmlelmknbddkjaaDoorCalG
namespace Go.Proofs.YtmlelmknbddkjaaDoor
open Go.RowKit

/-- what the program's table of days before a month holds -/
def bfC : Array Value := (Cal.bef.map (Value.int .i64)).toArray
def Bf (w : World) : Prop := ∃ t fr, w.heap[0]? = some (.cells bfC t fr)
theorem Bf.pos {w : World} (h : Bf w) : 0 < w.heap.size := by
  obtain ⟨t, fr, h⟩ := h
  exact (Array.getElem?_eq_some_iff.1 h).1
theorem bf_of {W w' : World} (h : Bf W) (hb : Below W.heap.size W w') : Bf w' := by
  have hp := h.pos
  obtain ⟨t, fr, h⟩ := h
  exact ⟨t, fr, by rw [hb.block _ hp]; exact h⟩

/-- THE PROGRAM's CONTRACTS. -/
structure CalOk : Prop where
  date : ∀ (t : Int) (w : World), I64 t → Bf w → Calls Tryd.prog 11 #[.int .i64 t] w fun e w' => e = .returned (dv (date t)) ∧ Below w.heap.size w w'
  day : ∀ (y m d : Int) (w : World), I64 y → I64 m → I64 d → Bf w → Calls Tryd.prog 13 #[.int .i64 y, .int .i64 m, .int .i64 d] w fun e w' => e = .returned (pv (dayOf y m d)) ∧ Below w.heap.size w w'
  weekday : ∀ (t : Int) (w : World), I64 t → Bf w → Calls Tryd.prog 15 #[.int .i64 t] w fun e w' => e = .returned (pv (weekday t)) ∧ Below w.heap.size w w'
  addM : ∀ (t n : Int) (w : World), I64 t → I64 n → Bf w → Calls Tryd.prog 17 #[.int .i64 t, .int .i64 n] w fun e w' => e = .returned (pv (addM t n)) ∧ Below w.heap.size w w'
  isOpen : ∀ (nm : ByteArray) (o c : Int) (v3 v4 v5 : Value) (C : Lists) (t : Int) (w : World), CityAt w v3 v4 v5 C → I64 t → Bf w →
    Calls Tryd.prog 19 #[cityV nm o c v3 v4 v5, .int .i64 t] w fun e w' => e = .returned (bv (openV C t)) ∧ Below w.heap.size w w'
  next : ∀ (nm : ByteArray) (o c : Int) (v3 v4 v5 : Value) (C : Lists) (t : Int) (w : World), CityAt w v3 v4 v5 C → I64 t → Bf w →
    Calls Tryd.prog 21 #[cityV nm o c v3 v4 v5, .int .i64 t] w fun e w' => e = .returned (pv (nextV C t)) ∧ Below w.heap.size w w'
  plus : ∀ (nm : ByteArray) (o c : Int) (v3 v4 v5 : Value) (C : Lists) (t n : Int) (w : World), CityAt w v3 v4 v5 C → I64 t → I64 n → Bf w →
    Calls Tryd.prog 23 #[cityV nm o c v3 v4 v5, .int .i64 t, .int .i64 n] w fun e w' => e = .returned (pv (plusV C t n)) ∧ Below w.heap.size w w'
  count : ∀ (nm : ByteArray) (o c : Int) (v3 v4 v5 : Value) (C : Lists) (a b : Int) (w : World), CityAt w v3 v4 v5 C → I64 a → I64 b → Bf w →
    Calls Tryd.prog 26 #[cityV nm o c v3 v4 v5, .int .i64 a, .int .i64 b] w fun e w' => e = .returned (pv (countV C a b)) ∧ Below w.heap.size w w'

theorem ex_date : date 59 = (2000, 2, 29, 0) := by decide +kernel
theorem ex_weekday : weekday 59 = (1, 0) := by decide +kernel
theorem ex_one : addM 30 1 = (59, 0) := by decide +kernel
theorem ex_two : addM 30 2 = (90, 0) := by decide +kernel
theorem ex_next : nextV ⟨[5, 6], [101], []⟩ 0 = (2, 0) := by decide +kernel
theorem ex_plus : plusV ⟨[5, 6], [101], []⟩ 0 5 = (6, 0) := by decide +kernel
theorem ex_count : countV ⟨[5, 6], [101], []⟩ 0 8 = (5, 0) := by decide +kernel
theorem ex_day : dayOf 2001 2 29 = (0, 3) := by decide +kernel
theorem ex_none : nextV ⟨[0, 1, 2, 3, 4, 5, 6], [], []⟩ 0 = (0, 3) := by
  rcases nextV_two ⟨[0, 1, 2, 3, 4, 5, 6], [], []⟩ 0 with ⟨u, -, -, h, -⟩ | ⟨h, -⟩
  · exfalso
    have hm : (u + 5) % 7 ∈ ([0, 1, 2, 3, 4, 5, 6] : List Int) := by
      have h1 : 0 ≤ (u + 5) % 7 := by omega
      have h2 : (u + 5) % 7 < 7 := by omega
      generalize (u + 5) % 7 = r at h1 h2
      simp only [List.mem_cons, List.not_mem_nil, or_false]
      omega
    unfold isOpen at h
    rw [hasB_iff.2 hm] at h
    simp at h
  · exact h

theorem Ints.nil (w : World) : Ints w (.slice none 0 0) [] := ⟨none, 0, rfl, fun j x h => by simp at h⟩
theorem small_I64 {n : Int} (h1 : -1000000 ≤ n) (h2 : n ≤ 1000000) : I64 n := by unfold I64; omega
/-- a list in a new block -/
theorem Ints.new (w : World) (l : List Int) (T : TypeId) (cap : Nat) (n : Nat) (hn : n = w.heap.size) : Ints (w.alloc (.cells (l.map (Value.int .i64)).toArray T)) (.slice (some ⟨n, 0, none⟩) l.length cap) l := by
  subst hn
  refine ⟨some ⟨w.heap.size, 0, none⟩, cap, rfl, fun j x hx => ⟨w.heap.size, 0, rfl, by simp, ?_⟩⟩
  rw [World.cell?_alloc_new]
  simp [hx]
theorem Ints.alloc {w : World} {v : Value} {l : List Int} (h : Ints w v l) (o : Obj) : Ints (w.alloc o) v l := h.below ((Below.refl _ _).alloc (Nat.le_refl _) _)

end Go.Proofs.YtmlelmknbddkjaaDoor
