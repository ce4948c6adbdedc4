/-
  From a contract to a row, for laws that answer true.
-/
import Derived.Test.YtcbeodhopimmlaaLawA
import Derived.Test.YtcbeodhopimmlaaRows
import Derived.WalkKit
import Derived.ProofKit
import Derived.OpenShut
import Derived.SliceStrings
import Derived.JoinedCond
import Derived.SizedLaws
import Derived.Lib.SmallJoins
import Derived.Deep.Slices
import Derived.Deep.Fields
import Derived.ChangeSame
namespace Go.Proofs.Ytcbeodhopimmlaa
open Go.ChangeShapes Go.WideShapes Go.ChangeAt Go.RowKit
open Go.Deep Dk

theorem own : ownKnob Try.prog.godebug = none := by kernel_rfl
theorem laidOut : laidOutB Try.prog = true := by kernel_rfl

theorem below_trodAll {H : Type} {enc : TypeId × Value → H} {P : Program} (hl : laidOutB P = true) {W W' : World} (hb : Below W.heap.size W W') :
    ∀ (ts : List TypeId) (vs : List Value) (ds : List (DataW H)) (ps : List MemPlace), (ts.all fun t => P.readableRec t && decide (t < P.types.size)) = true →
      DataW.TrodAll enc P W 0 (fun _ => true) true ts vs ds ps → (∀ x ∈ ps, x.block < W.heap.size) → DataW.TrodAll enc P W' 0 (fun b => decide (b < W.heap.size)) true ts vs ds ps
  | [], [], [], _, _, h, _ => h
  | [], _ :: _, _, _, _, h, _ => h.elim
  | [], [], _ :: _, _, _, h, _ => h.elim
  | _ :: _, [], _, _, _, h, _ => h.elim
  | _ :: _, _ :: _, [], _, _, h, _ => h.elim
  | t :: ts, v :: vs, d :: ds, ps, ht, h, hlt => by
    obtain ⟨p, q, h1, h2, e⟩ := h
    subst e
    simp only [List.all_cons, Bool.and_eq_true, decide_eq_true_eq] at ht
    exact ⟨p, q, Below.trod hl ht.1.1 ht.1.2 h1 hb (fun x hx => hlt x (List.mem_append_left _ hx)), below_trodAll hl hb ts vs ds q ht.2 h2 (fun x hx => hlt x (List.mem_append_right _ hx)), rfl⟩

/-- THE END OF A LAW: true, its arguments as they were, new memory alone. -/
theorem law_post {H : Type} {enc : TypeId × Value → H} {P : Program} {f : Func} {s : ChangeSpec} {tb : TypeId} (hl : laidOutB P = true) (hres : f.resultTypes = #[tb]) (htb : P.underlying tb = some .bool)
    (hts : (f.params.toList.all fun t => P.readableRec t && decide (t < P.types.size)) = true) (hvars : s.vars = []) {W W' : World} {args : Array Value} {ds : List (DataW H)} {before : List MemPlace}
    (hW : DataW.Whole enc P f.params.toList s.vars false W args.toList ds [] before)
    (er : (s.fn H (ds ++ [])).results = [.lit (.bool true)]) (ea : (s.fn H (ds ++ [])).args = ds) (ev : (s.fn H (ds ++ [])).vars = []) (hb : Below W.heap.size W W') :
    s.post enc P f false true false false W args (.bool true) W' := by
  have hlt := fun x hx => hW.lt x hx
  obtain ⟨p, q, hA, hV, hpq, _, _⟩ := id hW
  rw [hvars] at hV
  obtain ⟨_, rfl⟩ := trodVars_none hV
  rw [List.append_nil] at hpq
  subst hpq
  refine ⟨ds, [], before, [] ++ [], before, [], hW, ?_, ?_, ?_, hb.frame _, fun h => by cases h⟩
  · rw [hres, er]
    exact trodAll_cons_mk (shut_bool htb _) trodAll_mk0
  · rw [ea]
    exact below_trodAll hl hb _ _ _ _ hts hA (fun x hx => by simpa using hlt x hx)
  · rw [ev, hvars]
    rfl

theorem int_of {n : Int} (h : (Lit.int .i64 n).wf = true) : I64 n := by
  simp [Lit.wf, IntKind.min, IntKind.max, IntKind.signed, IntKind.bits] at h
  exact h
theorem cellsDisk : Try.prog.cellsOf 25 = 4 := by kernel_rfl
theorem cellsWrite : Try.prog.cellsOf 44 = 2 := by kernel_rfl
theorem cellsStr : Try.prog.cellsOf 9 = 1 := by kernel_rfl

section
variable {H : Type} {enc : TypeId × Value → H} {W : World} {v : Value} {d : DataW H} {p : List MemPlace} {r : Go.Reach} {b0 : Nat}

theorem len_max {n : Nat} (h : n ≤ maxLen) : n ≤ 9223372036854775807 := by unfold maxLen at h; omega
/-- a list of strings -/
theorem open_secs {fuel : Nat} {x : DataW H × List MemPlace} (h : DataW.trod enc Try.prog W 0 (fun _ => true) true fuel 22 [v] = some x) :
    ∃ l : List B, SAt W v (strs l) ∧ ∀ s ∈ l, s.size ≤ 9223372036854775807 := by
  rcases open_strings Try.underlying22 Try.underlying9 cellsStr h with ⟨hcs, _⟩ | ⟨a, len, cap, ss, hcs, _, hl, _, hz, _, hcell, hsz⟩
  · simp only [List.cons.injEq, and_true] at hcs
    subst hcs
    exact ⟨[], SAt.nil W, fun s hs => absurd hs (List.not_mem_nil)⟩
  · simp only [List.cons.injEq, and_true] at hcs
    subst hcs
    simp only [if_true] at hz
    have hlen : (ss.take len).length = len := by rw [List.length_take]; omega
    refine ⟨ss.take len, ⟨some a, cap, by rw [List.length_map, hlen], by rw [List.length_map, hlen]; exact hl, fun j x hj => ?_⟩, fun s hs => len_max (hsz s (List.mem_of_mem_take hs))⟩
    have hjl : j < len := by
      have := (List.getElem?_eq_some_iff.1 hj).1
      rw [List.length_map, hlen] at this
      exact this
    have h0 := hcell 0 (by omega)
    have e : a.add 0 = a := by simp [Addr.add]
    rw [e] at h0
    have hsp := World.cell?_spot h0
    have hc := hcell j (by omega)
    have hx : x = .string (ss.getD j ByteArray.empty) := by
      rw [List.getElem?_map, List.getElem?_take_of_lt hjl, List.getElem?_eq_getElem (by omega)] at hj
      rw [List.getD_eq_getElem?_getD, List.getElem?_eq_getElem (by omega)]
      simpa using hj.symm
    obtain ⟨b, off, spot⟩ := a
    simp only at hsp
    subst hsp
    rw [add_plain] at hc
    subst hx
    exact ⟨b, off, rfl, World.block_lt_of_cell? W ⟨b, off + j, none⟩ hc, hc⟩
/-- the cells of one write -/
theorem open_writeC {sp : Nat → Bool} {held : Bool} {n : Nat} {cs : List Value} {y : DataW H × List MemPlace} (h : DataW.trod enc Try.prog W 0 sp held n 44 cs = some y) :
    ∃ q : Int × B, cs = [.int .i64 q.1, .string q.2] ∧ I64 q.1 ∧ q.2.size ≤ 9223372036854775807 := by
  obtain ⟨ys, n', _, _, hlen, _, hf⟩ := DataW.trod_struct Try.underlying44 h
  rw [cellsWrite] at hlen
  match cs, hlen with
  | [c0, c1], _ =>
    have hl : ys.length = 2 := by assumption
    have hy : ∀ (j : Nat) {x : Option (DataW H × List MemPlace)}, x = ys[j]? → j < ys.length → x = some (ys[j]?.getD (.nil, [])) := by
      intro j x hx hj
      rw [hx, List.getElem?_eq_getElem hj]
      rfl
    have h0 := hf 0 _ rfl
    have h1 := hf 1 _ rfl
    have g0 : DataW.trod enc Try.prog W 0 sp held n' 3 [c0] = _ := hy 0 h0 (by omega)
    have g1 : DataW.trod enc Try.prog W 0 sp held n' 9 [c1] = _ := hy 1 h1 (by omega)
    obtain ⟨k0, e0, _, o0⟩ := DataW.trod_int Try.underlying3 g0
    obtain ⟨s, e1, _, o1⟩ := DataW.trod_string Try.underlying9 g1
    simp only [List.cons.injEq, and_true] at e0 e1
    exact ⟨(k0, s), by rw [e0, e1], int_of o0, len_max o1⟩
/-- a list of writes -/
theorem open_pend {fuel : Nat} {x : DataW H × List MemPlace} (h : DataW.trod enc Try.prog W 0 (fun _ => true) true fuel 23 [v] = some x) :
    ∃ l : List (Int × B), WAt W v l ∧ ∀ q ∈ l, I64 q.1 ∧ q.2.size ≤ 9223372036854775807 := by
  rcases open_slice Try.underlying23 h with ⟨hcs, hx⟩ | ⟨a, len, cap, m, n, D, Pl, hcs, _, hl, _, hm, hx, hi⟩
  · simp only [List.cons.injEq, and_true] at hcs
    subst hcs
    exact ⟨[], WAt.nil W, fun s hs => absurd hs (List.not_mem_nil)⟩
  · simp only [List.cons.injEq, and_true] at hcs
    subst hcs
    simp only [if_true] at hm
    have hall : ∀ i : Fin len, ∃ q : Int × B, (I64 q.1 ∧ q.2.size ≤ 9223372036854775807) ∧ ∀ j, j < 2 → W.cell? ((a.add (i.val * 2)).add j) = [Value.int .i64 q.1, Value.string q.2][j]? := by
      intro i
      obtain ⟨cs', hc, ht⟩ := hi i.val (by have := i.isLt; omega)
      obtain ⟨q, rfl, hw⟩ := open_writeC ht
      rw [cellsWrite] at hc
      exact ⟨q, hw, (World.cells?_some hc).2.2⟩
    let f : Fin len → Int × B := fun i => Classical.choose (hall i)
    have hfs : ∀ i : Fin len, (I64 (f i).1 ∧ (f i).2.size ≤ 9223372036854775807) ∧ ∀ j, j < 2 → W.cell? ((a.add (i.val * 2)).add j) = [Value.int .i64 (f i).1, Value.string (f i).2][j]? := fun i => Classical.choose_spec (hall i)
    have hlen : (List.ofFn f).length = len := by simp
    refine ⟨List.ofFn f, ⟨some a, cap, by rw [hlen], by rw [hlen]; exact hl, fun j t hj => ?_⟩, fun t ht => ?_⟩
    · have hjl : j < len := by
        have := (List.getElem?_eq_some_iff.1 hj).1
        rw [hlen] at this
        exact this
      have het : f ⟨j, hjl⟩ = t := by
        rw [List.getElem?_eq_getElem (by rw [hlen]; exact hjl)] at hj
        simpa using hj
      have hsp : a.spot = none := by
        have h0 := (hfs ⟨0, by omega⟩).2 0 (by omega)
        have e : (a.add (0 * 2)).add 0 = a := by simp [Addr.add]
        rw [e] at h0
        exact World.cell?_spot (v := .int .i64 (f ⟨0, by omega⟩).1) h0
      have hc := (hfs ⟨j, hjl⟩).2
      rw [het] at hc
      obtain ⟨b, off, spot⟩ := a
      simp only at hsp
      subst hsp
      have q0 := hc 0 (by omega)
      have q1 := hc 1 (by omega)
      rw [add_plain, add_plain] at q0 q1
      exact ⟨b, off, rfl, World.block_lt_of_cell? W ⟨b, off + j * 2 + 0, none⟩ q0, q0, q1⟩
    · obtain ⟨i, rfl⟩ := List.mem_ofFn.1 ht
      exact (hfs i).1
/-- a disk among the arguments -/
theorem open_disk (hv : Value.okWide Try.prog W r b0 25 v) (h : DataW.Trod enc Try.prog W 0 (fun _ => true) true 25 v d p) :
    ∃ D0 : D, DAt W v D0 ∧ FitW D0 := by
  obtain ⟨c0, c1, c2, c3, y0, y1, y2, y3, n, rfl, -, -, g0, g1, g2, g3⟩ := Go.Joins.open_agg4 Try.underlying25 (by kernel_rfl) cellsDisk hv h
  obtain ⟨l, hl, hs⟩ := open_secs g0
  obtain ⟨q, hq, hw⟩ := open_pend g1
  obtain ⟨k, e2, _, o2⟩ := DataW.trod_int Try.underlying3 g2
  obtain ⟨b, e3, _⟩ := DataW.trod_bool Try.underlying4 g3
  simp only [List.cons.injEq, and_true] at e2 e3
  subst e2 e3
  exact ⟨⟨l, q, k, b⟩, ⟨_, _, rfl, hl, hq⟩, ⟨int_of o2, fun p hp => (hw p hp).1, hs, fun p hp => (hw p hp).2⟩⟩
/-- a byte among the arguments -/
theorem byte_of {n : Int} (h : (Lit.int .u8 n).wf = true) : 0 ≤ n ∧ n < 256 := by
  simp [Lit.wf, IntKind.min, IntKind.max, IntKind.signed, IntKind.bits] at h
  omega
end

end Go.Proofs.Ytcbeodhopimmlaa
