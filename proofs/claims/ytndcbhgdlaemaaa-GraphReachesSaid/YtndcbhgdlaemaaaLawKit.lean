/-
  From a contract to a row, for laws that answer true.
-/
import Derived.Test.YtndcbhgdlaemaaaLawA
import Derived.Test.YtndcbhgdlaemaaaRows
import Derived.WalkKit
import Derived.ProofKit
import Derived.OpenShut
import Derived.SliceStrings
import Derived.JoinedCond
import Derived.SizedLaws
import Derived.Lib.SmallJoins
import Derived.Deep.Slices
import Derived.Deep.Fields
import Derived.ChangeSame
namespace Go.Proofs.Ytndcbhgdlaemaaa
open Go.ChangeShapes Go.WideShapes Go.ChangeAt Go.RowKit
open Go.Deep

theorem own : ownKnob Try.prog.godebug = none := by kernel_rfl
theorem laidOut : laidOutB Try.prog = true := by kernel_rfl

theorem below_trodAll {H : Type} {enc : TypeId × Value → H} {P : Program} (hl : laidOutB P = true) {W W' : World} (hb : Below W.heap.size W W') :
    ∀ (ts : List TypeId) (vs : List Value) (ds : List (DataW H)) (ps : List MemPlace), (ts.all fun t => P.readableRec t && decide (t < P.types.size)) = true →
      DataW.TrodAll enc P W 0 (fun _ => true) true ts vs ds ps → (∀ x ∈ ps, x.block < W.heap.size) → DataW.TrodAll enc P W' 0 (fun b => decide (b < W.heap.size)) true ts vs ds ps
  | [], [], [], _, _, h, _ => h
  | [], _ :: _, _, _, _, h, _ => h.elim
  | [], [], _ :: _, _, _, h, _ => h.elim
  | _ :: _, [], _, _, _, h, _ => h.elim
  | _ :: _, _ :: _, [], _, _, h, _ => h.elim
  | t :: ts, v :: vs, d :: ds, ps, ht, h, hlt => by
    obtain ⟨p, q, h1, h2, e⟩ := h
    subst e
    simp only [List.all_cons, Bool.and_eq_true, decide_eq_true_eq] at ht
    exact ⟨p, q, Below.trod hl ht.1.1 ht.1.2 h1 hb (fun x hx => hlt x (List.mem_append_left _ hx)), below_trodAll hl hb ts vs ds q ht.2 h2 (fun x hx => hlt x (List.mem_append_right _ hx)), rfl⟩

/-- THE END OF A LAW: true, its arguments as they were, new memory alone. -/
theorem law_post {H : Type} {enc : TypeId × Value → H} {P : Program} {f : Func} {s : ChangeSpec} {tb : TypeId} (hl : laidOutB P = true) (hres : f.resultTypes = #[tb]) (htb : P.underlying tb = some .bool)
    (hts : (f.params.toList.all fun t => P.readableRec t && decide (t < P.types.size)) = true) (hvars : s.vars = []) {W W' : World} {args : Array Value} {ds : List (DataW H)} {before : List MemPlace}
    (hW : DataW.Whole enc P f.params.toList s.vars false W args.toList ds [] before)
    (er : (s.fn H (ds ++ [])).results = [.lit (.bool true)]) (ea : (s.fn H (ds ++ [])).args = ds) (ev : (s.fn H (ds ++ [])).vars = []) (hb : Below W.heap.size W W') :
    s.post enc P f false true false false W args (.bool true) W' := by
  have hlt := fun x hx => hW.lt x hx
  obtain ⟨p, q, hA, hV, hpq, _, _⟩ := id hW
  rw [hvars] at hV
  obtain ⟨_, rfl⟩ := trodVars_none hV
  rw [List.append_nil] at hpq
  subst hpq
  refine ⟨ds, [], before, [] ++ [], before, [], hW, ?_, ?_, ?_, hb.frame _, fun h => by cases h⟩
  · rw [hres, er]
    exact trodAll_cons_mk (shut_bool htb _) trodAll_mk0
  · rw [ea]
    exact below_trodAll hl hb _ _ _ _ hts hA (fun x hx => by simpa using hlt x hx)
  · rw [ev, hvars]
    rfl

theorem int_of {n : Int} (h : (Lit.int .i64 n).wf = true) : I64 n := by
  simp [Lit.wf, IntKind.min, IntKind.max, IntKind.signed, IntKind.bits] at h
  exact h
theorem cellsEdge : Try.prog.cellsOf 40 = 2 := by kernel_rfl
theorem cellsInt : Try.prog.cellsOf 3 = 1 := by kernel_rfl
theorem cellsBool : Try.prog.cellsOf 4 = 1 := by kernel_rfl
theorem bytesEdge : Try.prog.bytesOf 40 = 16 := by kernel_rfl

section
variable {H : Type} {enc : TypeId × Value → H} {W : World} {v : Value} {d : DataW H} {p : List MemPlace} {r : Go.Reach} {b0 : Nat}

/-- the cells of one edge -/
theorem open_edgeC {sp : Nat → Bool} {held : Bool} {n : Nat} {cs : List Value} {y : DataW H × List MemPlace} (h : DataW.trod enc Try.prog W 0 sp held n 40 cs = some y) :
    ∃ t : Int × Int, cs = [.int .i64 t.1, .int .i64 t.2] ∧ I64 t.1 ∧ I64 t.2 := by
  obtain ⟨ys, n', _, _, hlen, hyl, hg⟩ := DataW.trod_array Try.underlying40 h
  rw [cellsEdge] at hlen
  match cs, hlen with
  | [c0, c1], _ =>
    have hy : ∀ (j : Nat) {x : Option (DataW H × List MemPlace)}, x = ys[j]? → j < ys.length → x = some (ys[j]?.getD (.nil, [])) := by
      intro j x hx hj
      rw [hx, List.getElem?_eq_getElem hj]
      rfl
    have h0 := hg 0 (by omega)
    have h1 := hg 1 (by omega)
    rw [cellsInt] at h0 h1
    have g0 : DataW.trod enc Try.prog W 0 sp held n' 3 [c0] = _ := hy 0 h0 (by omega)
    have g1 : DataW.trod enc Try.prog W 0 sp held n' 3 [c1] = _ := hy 1 h1 (by omega)
    obtain ⟨k0, e0, _, o0⟩ := DataW.trod_int Try.underlying3 g0
    obtain ⟨k1, e1, _, o1⟩ := DataW.trod_int Try.underlying3 g1
    simp only [List.cons.injEq, and_true] at e0 e1
    exact ⟨(k0, k1), by rw [e0, e1], int_of o0, int_of o1⟩
/-- a pair among the arguments -/
theorem open_pair (hv : Value.okWide Try.prog W r b0 40 v) (h : DataW.Trod enc Try.prog W 0 (fun _ => true) true 40 v d p) :
    ∃ t : Int × Int, v = .agg #[.int .i64 t.1, .int .i64 t.2] ∧ I64 t.1 ∧ I64 t.2 := by
  obtain ⟨cs, rfl⟩ : ∃ cs, v = .agg cs := by
    simp only [Value.okWide, Try.underlying40] at hv
    obtain ⟨cs, h1, _⟩ := hv
    exact ⟨cs, h1⟩
  obtain ⟨fuel, hf⟩ := h
  obtain ⟨t, ht, hok⟩ := open_edgeC hf
  obtain ⟨l⟩ := cs
  have e : l = [.int .i64 t.1, .int .i64 t.2] := by simpa [Value.cells] using ht
  subst e
  exact ⟨t, rfl, hok⟩
theorem spot_of {a : Addr} {x : Value} (h : W.cell? a = some x) : a.spot = none := World.cell?_spot h
/-- a list of edges among the arguments -/
theorem open_edges (hval : Value.okWide Try.prog W r b0 22 v) (h : DataW.Trod enc Try.prog W 0 (fun _ => true) true 22 v d p) :
    ∃ e : Gr.E, EAt W v e ∧ okE2 e ∧ (∀ n c, v = .slice none n c → c = 0) ∧ (e = [] ∨ ∃ elems spare, d = .slice elems spare ∧ elems.length = e.length) := by
  obtain ⟨a0, len, cap, rfl⟩ := okWide_slice Try.underlying22 hval
  obtain ⟨fuel, hf⟩ := h
  rcases open_slice Try.underlying22 hf with ⟨hcs, hx⟩ | ⟨a, len', cap', m, n, D, Pl, hcs, _, hl, _, hm, hx, hi⟩
  · simp [Value.cells] at hcs
    obtain ⟨rfl, rfl, rfl⟩ := hcs
    exact ⟨[], ⟨none, 0, rfl, Nat.le_refl _, fun j t hj => by simp at hj⟩, fun p hp => absurd hp (by simp), fun n c e => by injection e with _ _ e; exact e.symm, .inl rfl⟩
  · simp [Value.cells] at hcs
    obtain ⟨rfl, rfl, rfl⟩ := hcs
    simp only [if_true] at hm
    have hall : ∀ i : Fin len, ∃ t : Int × Int, (I64 t.1 ∧ I64 t.2) ∧ ∀ j, j < 2 → W.cell? ((a.add (i.val * 2)).add j) = [Value.int .i64 t.1, .int .i64 t.2][j]? := by
      intro i
      obtain ⟨cs', hc, ht⟩ := hi i.val (by have := i.isLt; omega)
      obtain ⟨t, rfl, hw⟩ := open_edgeC ht
      rw [cellsEdge] at hc
      exact ⟨t, hw, (World.cells?_some hc).2.2⟩
    let f : Fin len → Int × Int := fun i => Classical.choose (hall i)
    have hfs : ∀ i : Fin len, (I64 (f i).1 ∧ I64 (f i).2) ∧ ∀ j, j < 2 → W.cell? ((a.add (i.val * 2)).add j) = [Value.int .i64 (f i).1, .int .i64 (f i).2][j]? := fun i => Classical.choose_spec (hall i)
    have hlen : (List.ofFn f).length = len := by simp
    refine ⟨List.ofFn f, ⟨some a, cap, by rw [hlen], by rw [hlen]; exact hl, fun j t hj => ?_⟩, fun t ht => ?_, (fun n c e => by injection e with e; cases e), .inr ⟨_, _, congrArg Prod.fst hx, by rw [hlen]; simp⟩⟩
    · have hjl : j < len := by
        have := (List.getElem?_eq_some_iff.1 hj).1
        rw [hlen] at this
        exact this
      have het : f ⟨j, hjl⟩ = t := by
        rw [List.getElem?_eq_getElem (by rw [hlen]; exact hjl)] at hj
        simpa using hj
      have hsp : a.spot = none := by
        have h0 := (hfs ⟨0, by omega⟩).2 0 (by omega)
        have e : (a.add (0 * 2)).add 0 = a := by simp [Addr.add]
        rw [e] at h0
        exact spot_of h0
      have hc := (hfs ⟨j, hjl⟩).2
      rw [het] at hc
      obtain ⟨b, off, spot⟩ := a
      simp only at hsp
      subst hsp
      have q0 := hc 0 (by omega)
      have q1 := hc 1 (by omega)
      rw [add_plain, add_plain] at q0 q1
      exact ⟨b, off, rfl, World.block_lt_of_cell? W ⟨b, off + j * 2 + 0, none⟩ q0, q0, q1⟩
    · obtain ⟨i, rfl⟩ := List.mem_ofFn.1 ht
      exact (hfs i).1
/-- a list of ints among the arguments -/
theorem open_ints (hval : Value.okWide Try.prog W r b0 25 v) (h : DataW.Trod enc Try.prog W 0 (fun _ => true) true 25 v d p) : ∃ l : List Int, SAt W v (ints l) := by
  obtain ⟨a0, len, cap, rfl⟩ := okWide_slice Try.underlying25 hval
  obtain ⟨fuel, hf⟩ := h
  rcases open_slice Try.underlying25 hf with ⟨hcs, hx⟩ | ⟨a, len', cap', m, n, D, Pl, hcs, _, hl, _, hm, hx, hi⟩
  · simp [Value.cells] at hcs
    obtain ⟨rfl, rfl, rfl⟩ := hcs
    exact ⟨[], SAt.nil W⟩
  · simp [Value.cells] at hcs
    obtain ⟨rfl, rfl, rfl⟩ := hcs
    simp only [if_true] at hm
    have hall : ∀ i : Fin len, ∃ t : Int, W.cell? (a.add i.val) = some (Value.int .i64 t) := by
      intro i
      obtain ⟨cs', hc, ht⟩ := hi i.val (by have := i.isLt; omega)
      rw [cellsInt] at hc
      obtain ⟨t, rfl, _⟩ := DataW.trod_int Try.underlying3 ht
      have h0 := (World.cells?_some hc).2.2 0 (by omega)
      rw [Nat.mul_one] at h0
      have e : (a.add i.val).add 0 = a.add i.val := by simp [Addr.add]
      rw [e] at h0
      exact ⟨t, h0⟩
    let f : Fin len → Int := fun i => Classical.choose (hall i)
    have hfs : ∀ i : Fin len, W.cell? (a.add i.val) = some (Value.int .i64 (f i)) := fun i => Classical.choose_spec (hall i)
    have hlen : (List.ofFn f).length = len := by simp
    refine ⟨List.ofFn f, some a, cap, by rw [List.length_map, hlen], by rw [List.length_map, hlen]; exact hl, fun j x hj => ?_⟩
    have hjl : j < len := by
      have := (List.getElem?_eq_some_iff.1 hj).1
      rw [List.length_map, hlen] at this
      exact this
    have hx : x = Value.int .i64 (f ⟨j, hjl⟩) := by
      rw [List.getElem?_map, List.getElem?_eq_getElem (by rw [hlen]; exact hjl)] at hj
      simpa using hj.symm
    have hc := hfs ⟨j, hjl⟩
    have hsp : a.spot = none := by
      have h0 := hfs ⟨0, by omega⟩
      have e : a.add 0 = a := by simp [Addr.add]
      rw [e] at h0
      exact spot_of h0
    obtain ⟨b, off, spot⟩ := a
    simp only at hsp
    subst hsp
    rw [add_plain] at hc
    subst hx
    exact ⟨b, off, rfl, World.block_lt_of_cell? W ⟨b, off + j, none⟩ hc, hc⟩
/-- a list of bools among the arguments -/
theorem open_bools (hval : Value.okWide Try.prog W r b0 30 v) (h : DataW.Trod enc Try.prog W 0 (fun _ => true) true 30 v d p) : ∃ l : List Bool, SAt W v (bools l) := by
  obtain ⟨a0, len, cap, rfl⟩ := okWide_slice Try.underlying30 hval
  obtain ⟨fuel, hf⟩ := h
  rcases open_slice Try.underlying30 hf with ⟨hcs, hx⟩ | ⟨a, len', cap', m, n, D, Pl, hcs, _, hl, _, hm, hx, hi⟩
  · simp [Value.cells] at hcs
    obtain ⟨rfl, rfl, rfl⟩ := hcs
    exact ⟨[], SAt.nil W⟩
  · simp [Value.cells] at hcs
    obtain ⟨rfl, rfl, rfl⟩ := hcs
    simp only [if_true] at hm
    have hall : ∀ i : Fin len, ∃ t : Bool, W.cell? (a.add i.val) = some (Value.bool t) := by
      intro i
      obtain ⟨cs', hc, ht⟩ := hi i.val (by have := i.isLt; omega)
      rw [cellsBool] at hc
      obtain ⟨t, rfl, _⟩ := DataW.trod_bool Try.underlying4 ht
      have h0 := (World.cells?_some hc).2.2 0 (by omega)
      rw [Nat.mul_one] at h0
      have e : (a.add i.val).add 0 = a.add i.val := by simp [Addr.add]
      rw [e] at h0
      exact ⟨t, h0⟩
    let f : Fin len → Bool := fun i => Classical.choose (hall i)
    have hfs : ∀ i : Fin len, W.cell? (a.add i.val) = some (Value.bool (f i)) := fun i => Classical.choose_spec (hall i)
    have hlen : (List.ofFn f).length = len := by simp
    refine ⟨List.ofFn f, some a, cap, by rw [List.length_map, hlen], by rw [List.length_map, hlen]; exact hl, fun j x hj => ?_⟩
    have hjl : j < len := by
      have := (List.getElem?_eq_some_iff.1 hj).1
      rw [List.length_map, hlen] at this
      exact this
    have hx : x = Value.bool (f ⟨j, hjl⟩) := by
      rw [List.getElem?_map, List.getElem?_eq_getElem (by rw [hlen]; exact hjl)] at hj
      simpa using hj.symm
    have hc := hfs ⟨j, hjl⟩
    have hsp : a.spot = none := by
      have h0 := hfs ⟨0, by omega⟩
      have e : a.add 0 = a := by simp [Addr.add]
      rw [e] at h0
      exact spot_of h0
    obtain ⟨b, off, spot⟩ := a
    simp only at hsp
    subst hsp
    rw [add_plain] at hc
    subst hx
    exact ⟨b, off, rfl, World.block_lt_of_cell? W ⟨b, off + j, none⟩ hc, hc⟩
end

end Go.Proofs.Ytndcbhgdlaemaaa
