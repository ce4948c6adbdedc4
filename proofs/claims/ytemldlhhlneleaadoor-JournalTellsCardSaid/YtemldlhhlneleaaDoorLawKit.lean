/-
  From a contract to a row, for laws that answer true.
-/
import Derived.Test.YtemldlhhlneleaaDoorJpG
import Derived.Test.YtemldlhhlneleaaDoorProC
import Derived.Test.YtemldlhhlneleaaDoorProE
import Derived.Test.YtemldlhhlneleaaDoorProG
import Derived.Test.YtemldlhhlneleaaDoorCards
import Derived.Test.YtemldlhhlneleaaDoorTie
import Derived.WalkKit
import Derived.ProofKit
import Derived.OpenShut
import Derived.SliceStrings
import Derived.Lib.SmallJoins
import Derived.Stop.LaidErr
import Derived.JoinedCond
import Derived.SizedLaws
import Derived.Deep.DeepHandedRow
import Derived.Lib.LaidTab
import Derived.Deep.Slices
import Derived.Deep.Fields
import Derived.ChangeSame
namespace Go.Proofs.YtemldlhhlneleaaDoor
open Go.ChangeShapes Go.WideShapes Go.ChangeAt Go.RowKit
open Go.Deep Dk

theorem own : ownKnob Tryd.prog.godebug = none := by kernel_rfl
theorem laidOut : laidOutB Tryd.prog = true := by kernel_rfl

theorem below_trodAll {H : Type} {enc : TypeId × Value → H} {P : Program} (hl : laidOutB P = true) {W W' : World} (hb : Below W.heap.size W W') :
    ∀ (ts : List TypeId) (vs : List Value) (ds : List (DataW H)) (ps : List MemPlace), (ts.all fun t => P.readableRec t && decide (t < P.types.size)) = true →
      DataW.TrodAll enc P W 0 (fun _ => true) true ts vs ds ps → (∀ x ∈ ps, x.block < W.heap.size) → DataW.TrodAll enc P W' 0 (fun b => decide (b < W.heap.size)) true ts vs ds ps
  | [], [], [], _, _, h, _ => h
  | [], _ :: _, _, _, _, h, _ => h.elim
  | [], [], _ :: _, _, _, h, _ => h.elim
  | _ :: _, [], _, _, _, h, _ => h.elim
  | _ :: _, _ :: _, [], _, _, h, _ => h.elim
  | t :: ts, v :: vs, d :: ds, ps, ht, h, hlt => by
    obtain ⟨p, q, h1, h2, e⟩ := h
    subst e
    simp only [List.all_cons, Bool.and_eq_true, decide_eq_true_eq] at ht
    exact ⟨p, q, Below.trod hl ht.1.1 ht.1.2 h1 hb (fun x hx => hlt x (List.mem_append_left _ hx)), below_trodAll hl hb ts vs ds q ht.2 h2 (fun x hx => hlt x (List.mem_append_right _ hx)), rfl⟩

/-- THE END OF A LAW: true, its arguments as they were, new memory alone. -/
theorem law_post {H : Type} {enc : TypeId × Value → H} {P : Program} {f : Func} {s : ChangeSpec} {tb : TypeId} (hl : laidOutB P = true) (hres : f.resultTypes = #[tb]) (htb : P.underlying tb = some .bool)
    (hts : (f.params.toList.all fun t => P.readableRec t && decide (t < P.types.size)) = true) (hvars : s.vars = []) {W W' : World} {args : Array Value} {ds : List (DataW H)} {before : List MemPlace}
    (hW : DataW.Whole enc P f.params.toList s.vars false W args.toList ds [] before)
    (er : (s.fn H (ds ++ [])).results = [.lit (.bool true)]) (ea : (s.fn H (ds ++ [])).args = ds) (ev : (s.fn H (ds ++ [])).vars = []) (hb : Below W.heap.size W W') :
    s.post enc P f false true false false W args (.bool true) W' := by
  have hlt := fun x hx => hW.lt x hx
  obtain ⟨p, q, hA, hV, hpq, _, _⟩ := id hW
  rw [hvars] at hV
  obtain ⟨_, rfl⟩ := trodVars_none hV
  rw [List.append_nil] at hpq
  subst hpq
  refine ⟨ds, [], before, [] ++ [], before, [], hW, ?_, ?_, ?_, hb.frame _, fun h => by cases h⟩
  · rw [hres, er]
    exact trodAll_cons_mk (shut_bool htb _) trodAll_mk0
  · rw [ea]
    exact below_trodAll hl hb _ _ _ _ hts hA (fun x hx => by simpa using hlt x hx)
  · rw [ev, hvars]
    rfl

theorem int_of {n : Int} (h : (Lit.int .i64 n).wf = true) : I64 n := by
  simp [Lit.wf, IntKind.min, IntKind.max, IntKind.signed, IntKind.bits] at h
  exact h
theorem cellsStr : Tryd.prog.cellsOf 9 = 1 := by kernel_rfl

section
variable {H : Type} {enc : TypeId × Value → H} {W : World} {v : Value} {d : DataW H} {p : List MemPlace} {r : Go.Reach} {b0 : Nat}

theorem len_max {n : Nat} (h : n ≤ maxLen) : n ≤ 9223372036854775807 := by unfold maxLen at h; omega
/-- a list of strings -/
theorem open_secs {fuel : Nat} {x : DataW H × List MemPlace} (h : DataW.trod enc Tryd.prog W 0 (fun _ => true) true fuel 24 [v] = some x) :
    ∃ l : List B, SAt W v (strs l) ∧ ∀ s ∈ l, s.size ≤ 9223372036854775807 := by
  rcases open_strings Tryd.underlying24 Tryd.underlying9 cellsStr h with ⟨hcs, _⟩ | ⟨a, len, cap, ss, hcs, _, hl, _, hz, _, hcell, hsz⟩
  · simp only [List.cons.injEq, and_true] at hcs
    subst hcs
    exact ⟨[], SAt.nil W, fun s hs => absurd hs (List.not_mem_nil)⟩
  · simp only [List.cons.injEq, and_true] at hcs
    subst hcs
    simp only [if_true] at hz
    have hlen : (ss.take len).length = len := by rw [List.length_take]; omega
    refine ⟨ss.take len, ⟨some a, cap, by rw [List.length_map, hlen], by rw [List.length_map, hlen]; exact hl, fun j x hj => ?_⟩, fun s hs => len_max (hsz s (List.mem_of_mem_take hs))⟩
    have hjl : j < len := by
      have := (List.getElem?_eq_some_iff.1 hj).1
      rw [List.length_map, hlen] at this
      exact this
    have h0 := hcell 0 (by omega)
    have e : a.add 0 = a := by simp [Addr.add]
    rw [e] at h0
    have hsp := World.cell?_spot h0
    have hc := hcell j (by omega)
    have hx : x = .string (ss.getD j ByteArray.empty) := by
      rw [List.getElem?_map, List.getElem?_take_of_lt hjl, List.getElem?_eq_getElem (by omega)] at hj
      rw [List.getD_eq_getElem?_getD, List.getElem?_eq_getElem (by omega)]
      simpa using hj.symm
    obtain ⟨b, off, spot⟩ := a
    simp only at hsp
    subst hsp
    rw [add_plain] at hc
    subst hx
    exact ⟨b, off, rfl, World.block_lt_of_cell? W ⟨b, off + j, none⟩ hc, hc⟩
theorem open_len {fuel : Nat} {x : DataW H × List MemPlace} (h : DataW.trod enc Tryd.prog W 0 (fun _ => true) true fuel 24 [v] = some x) :
    ∀ a n c, v = .slice a n c → n ≤ 9223372036854775807 := by
  rcases open_strings Tryd.underlying24 Tryd.underlying9 cellsStr h with ⟨hcs, _⟩ | ⟨a, len, cap, ss, hcs, _, hl, hm, _, _, _, _⟩
  · intro a n c e
    subst e
    simp only [List.cons.injEq, and_true, Value.slice.injEq] at hcs
    omega
  · intro a n c e
    subst e
    simp only [List.cons.injEq, and_true, Value.slice.injEq] at hcs
    have := len_max hm
    omega
/-- a list of strings among the arguments, as lists of bytes -/
theorem open_strs {fuel : Nat} {x : DataW H × List MemPlace} (h : DataW.trod enc Tryd.prog W 0 (fun _ => true) true fuel 24 [v] = some x) :
    ∃ l : List Jn.S, Jn.LAt W v l ∧ l.length ≤ 9223372036854775807 ∧ ∀ s ∈ l, s.length ≤ 9223372036854775807 := by
  obtain ⟨l, h1, h2⟩ := open_secs h
  refine ⟨Jn.lst l, ?_, ?_, fun s hs => ?_⟩
  · show SAt W v (strs ((Jn.lst l).map Jn.mkB))
    rw [Jn.mk_lst]
    exact h1
  · rw [List.length_map]
    have := open_len h
    obtain ⟨a, c, e, -, -⟩ := h1
    rw [List.length_map] at e
    exact this _ _ _ e
  · obtain ⟨b, hb, rfl⟩ := List.mem_map.1 hs
    exact h2 b hb
end

/-- THE PROGRAM's CONTRACTS. -/
theorem diskOk : DiskOk := ⟨pCheck_x, pWrite_x, pFlush_x, fun v d n w h hf _ => pArm_x v d n w h hf, pCut_x, pStart_x⟩
theorem jok : Jn.JournalOk := Jn.journalOk diskOk

theorem gPowType : (Tryd.prog.globals[1]?).map (·.type) = some 124 := by kernel_rfl
theorem cellsPow : Tryd.prog.cellsOf 124 = 20 := by kernel_rfl
theorem cellsU64 : Tryd.prog.cellsOf 107 = 1 := by kernel_rfl
abbrev laidL : List (String × DataW Unit) := [("math/bits.deBruijn32tab", Rows.laid_math_bits_deBruijn32tab), ("math/bits.deBruijn64tab", Rows.laid_math_bits_deBruijn64tab), ("internal/strconv.uint64pow10", Rows.laid_internal_strconv_uint64pow10)]
/-- WHAT THE ROWS' LIST GIVES: the table of powers of ten. -/
theorem tb_laid {W : World} (h : laidMetH Tryd.prog laidL W) : Jn.Tb W := by
  have h0 : laidMet Tryd.prog laidL W := h
  have h1 : laidMet Tryd.prog [("internal/strconv.uint64pow10", Lib.tabData .u64 Lib.pow10Tab)] W := h0.tail.tail
  exact Jn.Tb.of (Lib.tabIs_of_head (rest := []) Jn.gPow gPowType Tryd.underlying124 Tryd.underlying107 cellsU64 cellsPow h1)
def litV : DataW Unit → Value
  | .lit (.int k n) => .int k n
  | _ => .bool false
def litCells : DataW Unit → Array Value
  | .agg l => (l.map litV).toArray
  | _ => #[]
def setTab (C : Array Value) : Obj → Obj
  | .cells _ t frozen => .cells C t frozen
  | o => o
/-- A WORLD FOR THE WITNESS: the settled one, the variables as their initialisers lay them. -/
noncomputable def laidWorld (os : Os) : World :=
  { World.holding Tryd.prog os ⟨#[], #[], []⟩ with heap := (((World.holding Tryd.prog os ⟨#[], #[], []⟩).heap.modify 2 (setTab (litCells Rows.laid_math_bits_deBruijn32tab))).modify 3 (setTab (litCells Rows.laid_math_bits_deBruijn64tab))).modify 1 (setTab (litCells Rows.laid_internal_strconv_uint64pow10)) }
theorem laid_met (os : Os) (args : Array Value) : laidMet Tryd.prog laidL ((laidWorld os).forCall (fun _ _ => 0) ⟨#[], args, []⟩).memory :=
  laidMet_of_run' 8 (by kernel_rfl) (by kernel_rfl)

end Go.Proofs.YtemldlhhlneleaaDoor
