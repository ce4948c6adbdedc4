/-
  From a contract to a row, for laws that answer true.
-/
import Derived.Test.YtdijhpcnlbjdaaaLawA
import Derived.Test.YtdijhpcnlbjdaaaRows
import Derived.WalkKit
import Derived.ProofKit
import Derived.OpenShut
import Derived.SliceStrings
import Derived.JoinedCond
import Derived.SizedLaws
import Derived.Lib.SmallJoins
import Derived.Deep.Slices
import Derived.Deep.Fields
import Derived.ChangeSame
namespace Go.Proofs.Ytdijhpcnlbjdaaa
open Go.ChangeShapes Go.WideShapes Go.ChangeAt Go.RowKit
open Go.Deep

theorem own : ownKnob Try.prog.godebug = none := by kernel_rfl
theorem laidOut : laidOutB Try.prog = true := by kernel_rfl

theorem below_trodAll {H : Type} {enc : TypeId × Value → H} {P : Program} (hl : laidOutB P = true) {W W' : World} (hb : Below W.heap.size W W') :
    ∀ (ts : List TypeId) (vs : List Value) (ds : List (DataW H)) (ps : List MemPlace), (ts.all fun t => P.readableRec t && decide (t < P.types.size)) = true →
      DataW.TrodAll enc P W 0 (fun _ => true) true ts vs ds ps → (∀ x ∈ ps, x.block < W.heap.size) → DataW.TrodAll enc P W' 0 (fun b => decide (b < W.heap.size)) true ts vs ds ps
  | [], [], [], _, _, h, _ => h
  | [], _ :: _, _, _, _, h, _ => h.elim
  | [], [], _ :: _, _, _, h, _ => h.elim
  | _ :: _, [], _, _, _, h, _ => h.elim
  | _ :: _, _ :: _, [], _, _, h, _ => h.elim
  | t :: ts, v :: vs, d :: ds, ps, ht, h, hlt => by
    obtain ⟨p, q, h1, h2, e⟩ := h
    subst e
    simp only [List.all_cons, Bool.and_eq_true, decide_eq_true_eq] at ht
    exact ⟨p, q, Below.trod hl ht.1.1 ht.1.2 h1 hb (fun x hx => hlt x (List.mem_append_left _ hx)), below_trodAll hl hb ts vs ds q ht.2 h2 (fun x hx => hlt x (List.mem_append_right _ hx)), rfl⟩

/-- THE END OF A LAW: true, its arguments as they were, new memory alone. -/
theorem law_post {H : Type} {enc : TypeId × Value → H} {P : Program} {f : Func} {s : ChangeSpec} {tb : TypeId} (hl : laidOutB P = true) (hres : f.resultTypes = #[tb]) (htb : P.underlying tb = some .bool)
    (hts : (f.params.toList.all fun t => P.readableRec t && decide (t < P.types.size)) = true) (hvars : s.vars = []) {W W' : World} {args : Array Value} {ds : List (DataW H)} {before : List MemPlace}
    (hW : DataW.Whole enc P f.params.toList s.vars false W args.toList ds [] before)
    (er : (s.fn H (ds ++ [])).results = [.lit (.bool true)]) (ea : (s.fn H (ds ++ [])).args = ds) (ev : (s.fn H (ds ++ [])).vars = []) (hb : Below W.heap.size W W') :
    s.post enc P f false true false false W args (.bool true) W' := by
  have hlt := fun x hx => hW.lt x hx
  obtain ⟨p, q, hA, hV, hpq, _, _⟩ := id hW
  rw [hvars] at hV
  obtain ⟨_, rfl⟩ := trodVars_none hV
  rw [List.append_nil] at hpq
  subst hpq
  refine ⟨ds, [], before, [] ++ [], before, [], hW, ?_, ?_, ?_, hb.frame _, fun h => by cases h⟩
  · rw [hres, er]
    exact trodAll_cons_mk (shut_bool htb _) trodAll_mk0
  · rw [ea]
    exact below_trodAll hl hb _ _ _ _ hts hA (fun x hx => by simpa using hlt x hx)
  · rw [ev, hvars]
    rfl

theorem int_of {n : Int} (h : (Lit.int .i64 n).wf = true) : I64 n := by
  simp [Lit.wf, IntKind.min, IntKind.max, IntKind.signed, IntKind.bits] at h
  exact h
theorem cellsRate : Try.prog.cellsOf 36 = 5 := by kernel_rfl
theorem cellsInt : Try.prog.cellsOf 3 = 1 := by kernel_rfl
theorem cellsPair : Try.prog.cellsOf 30 = 2 := by kernel_rfl

section
variable {H : Type} {enc : TypeId × Value → H} {W : World} {v : Value} {d : DataW H} {p : List MemPlace} {r : Reach} {b0 : Nat}

/-- the cells of one rate -/
theorem open_rateC {sp : Nat → Bool} {held : Bool} {n : Nat} {cs : List Value} {y : DataW H × List MemPlace} (h : DataW.trod enc Try.prog W 0 sp held n 36 cs = some y) :
    ∃ t : Mon.R, cs = rateC t ∧ okI t := by
  obtain ⟨ys, n', _, _, hlen, _, hf⟩ := DataW.trod_struct Try.underlying36 h
  rw [cellsRate] at hlen
  match cs, hlen with
  | [c0, c1, c2, c3, c4], _ =>
    have hl : ys.length = 5 := by assumption
    have hy : ∀ (j : Nat) {x : Option (DataW H × List MemPlace)}, x = ys[j]? → j < ys.length → x = some (ys[j]?.getD (.nil, [])) := by
      intro j x hx hj
      rw [hx, List.getElem?_eq_getElem hj]
      rfl
    have h0 := hf 0 _ rfl
    have h1 := hf 1 _ rfl
    have h2 := hf 2 _ rfl
    have h3 := hf 3 _ rfl
    have h4 := hf 4 _ rfl
    have g0 : DataW.trod enc Try.prog W 0 sp held n' 3 [c0] = _ := hy 0 h0 (by omega)
    have g1 : DataW.trod enc Try.prog W 0 sp held n' 3 [c1] = _ := hy 1 h1 (by omega)
    have g2 : DataW.trod enc Try.prog W 0 sp held n' 3 [c2] = _ := hy 2 h2 (by omega)
    have g3 : DataW.trod enc Try.prog W 0 sp held n' 3 [c3] = _ := hy 3 h3 (by omega)
    have g4 : DataW.trod enc Try.prog W 0 sp held n' 3 [c4] = _ := hy 4 h4 (by omega)
    obtain ⟨k0, e0, _, o0⟩ := DataW.trod_int Try.underlying3 g0
    obtain ⟨k1, e1, _, o1⟩ := DataW.trod_int Try.underlying3 g1
    obtain ⟨k2, e2, _, o2⟩ := DataW.trod_int Try.underlying3 g2
    obtain ⟨k3, e3, _, o3⟩ := DataW.trod_int Try.underlying3 g3
    obtain ⟨k4, e4, _, o4⟩ := DataW.trod_int Try.underlying3 g4
    simp only [List.cons.injEq, and_true] at e0 e1 e2 e3 e4
    exact ⟨⟨k0, k1, k2, k3, k4⟩, by rw [e0, e1, e2, e3, e4], int_of o0, int_of o1, int_of o2, int_of o3, int_of o4⟩

/-- a rate among the arguments -/
theorem open_rate (hv : Value.okWide Try.prog W r b0 36 v) (h : DataW.Trod enc Try.prog W 0 (fun _ => true) true 36 v d p) :
    ∃ t : Mon.R, v = .agg #[.int .i64 t.f, .int .i64 t.t, .int .i64 t.n, .int .i64 t.d, .int .i64 t.s] ∧ okI t := by
  obtain ⟨cs, rfl, -⟩ := okWide_struct Try.underlying36 hv
  obtain ⟨fuel, hf⟩ := h
  obtain ⟨t, ht, hok⟩ := open_rateC hf
  refine ⟨t, ?_, hok⟩
  obtain ⟨l⟩ := cs
  have e : l = rateC t := by simpa [Value.cells] using ht
  subst e
  rfl
/-- a pair among the arguments -/
theorem open_pair (hv : Value.okWide Try.prog W r b0 30 v) (h : DataW.Trod enc Try.prog W 0 (fun _ => true) true 30 v d p) :
    ∃ x y : Int, v = .agg #[.int .i64 x, .int .i64 y] ∧ I64 x ∧ I64 y := by
  obtain ⟨cs, rfl⟩ : ∃ cs, v = .agg cs := by
    simp only [Value.okWide, Try.underlying30] at hv
    obtain ⟨cs, h1, _⟩ := hv
    exact ⟨cs, h1⟩
  obtain ⟨fuel, hf⟩ := h
  obtain ⟨ys, n', _, _, hlen, hyl, hg⟩ := DataW.trod_array Try.underlying30 hf
  rw [cellsPair] at hlen
  obtain ⟨l⟩ := cs
  have hl : l.length = 2 := by simpa [Value.cells] using hlen
  match l, hl with
  | [c0, c1], _ =>
    have hy : ∀ (j : Nat) {x : Option (DataW H × List MemPlace)}, x = ys[j]? → j < ys.length → x = some (ys[j]?.getD (.nil, [])) := by
      intro j x hx hj
      rw [hx, List.getElem?_eq_getElem hj]
      rfl
    have h0 := hg 0 (by omega)
    have h1 := hg 1 (by omega)
    rw [cellsInt] at h0 h1
    have g0 : DataW.trod enc Try.prog W 0 (fun _ => true) true n' 3 [c0] = _ := hy 0 h0 (by omega)
    have g1 : DataW.trod enc Try.prog W 0 (fun _ => true) true n' 3 [c1] = _ := hy 1 h1 (by omega)
    obtain ⟨k0, e0, _, o0⟩ := DataW.trod_int Try.underlying3 g0
    obtain ⟨k1, e1, _, o1⟩ := DataW.trod_int Try.underlying3 g1
    simp only [List.cons.injEq, and_true] at e0 e1
    subst e0 e1
    exact ⟨k0, k1, rfl, int_of o0, int_of o1⟩

/-- a list of rates among the arguments -/
theorem open_rates (hval : Value.okWide Try.prog W r b0 22 v) (h : DataW.Trod enc Try.prog W 0 (fun _ => true) true 22 v d p) :
    ∃ L : List Mon.R, RAt W v L ∧ (∀ t ∈ L, okI t) ∧ (∀ n c, v = .slice none n c → c = 0) := by
  obtain ⟨a0, len, cap, rfl⟩ := okWide_slice Try.underlying22 hval
  obtain ⟨fuel, hf⟩ := h
  rcases open_slice Try.underlying22 hf with ⟨hcs, hx⟩ | ⟨a, len', cap', m, n, D, Pl, hcs, _, hl, _, hm, hx, hi⟩
  · simp [Value.cells] at hcs
    obtain ⟨rfl, rfl, rfl⟩ := hcs
    exact ⟨[], ⟨none, 0, rfl, Nat.le_refl _, fun j t hj => by simp at hj⟩, by simp, fun n c e => by injection e with _ _ e; exact e.symm⟩
  · simp [Value.cells] at hcs
    obtain ⟨rfl, rfl, rfl⟩ := hcs
    simp only [if_true] at hm
    have hall : ∀ i : Fin len, ∃ t : Mon.R, okI t ∧ ∀ j, j < 5 → W.cell? ((a.add (i.val * 5)).add j) = (rateC t)[j]? := by
      intro i
      obtain ⟨cs', hc, ht⟩ := hi i.val (by have := i.isLt; omega)
      obtain ⟨t, rfl, hw⟩ := open_rateC ht
      rw [cellsRate] at hc
      exact ⟨t, hw, (World.cells?_some hc).2.2⟩
    let f : Fin len → Mon.R := fun i => Classical.choose (hall i)
    have hfs : ∀ i : Fin len, okI (f i) ∧ ∀ j, j < 5 → W.cell? ((a.add (i.val * 5)).add j) = (rateC (f i))[j]? := fun i => Classical.choose_spec (hall i)
    have hlen : (List.ofFn f).length = len := by simp
    refine ⟨List.ofFn f, ⟨some a, cap, by rw [hlen], by rw [hlen]; exact hl, fun j t hj => ?_⟩, fun t ht => ?_, fun n c e => by injection e with e; cases e⟩
    · have hjl : j < len := by
        have := (List.getElem?_eq_some_iff.1 hj).1
        rw [hlen] at this
        exact this
      have het : f ⟨j, hjl⟩ = t := by
        rw [List.getElem?_eq_getElem (by rw [hlen]; exact hjl)] at hj
        simpa using hj
      have hsp : a.spot = none := by
        have h0 := (hfs ⟨0, by omega⟩).2 0 (by omega)
        have e : (a.add (0 * 5)).add 0 = a := by simp [Addr.add]
        rw [e] at h0
        exact World.cell?_spot (v := .int .i64 (f ⟨0, by omega⟩).f) h0
      have hc := (hfs ⟨j, hjl⟩).2
      rw [het] at hc
      obtain ⟨b, off, spot⟩ := a
      simp only at hsp
      subst hsp
      have hadd : ∀ i, ((⟨b, off, none⟩ : Addr).add (j * 5)).add i = ⟨b, off + j * 5 + i, none⟩ := by
        intro i
        unfold Addr.add
        by_cases h1 : j * 5 = 0 <;> by_cases h2 : i = 0 <;> simp [h1, h2]
      have q0 := hc 0 (by omega)
      have q1 := hc 1 (by omega)
      have q2 := hc 2 (by omega)
      have q3 := hc 3 (by omega)
      have q4 := hc 4 (by omega)
      simp only [hadd] at q0 q1 q2 q3 q4
      exact ⟨b, off, rfl, World.block_lt_of_cell? W ⟨b, off + j * 5 + 0, none⟩ q0, q0, q1, q2, q3, q4⟩
    · obtain ⟨i, rfl⟩ := List.mem_ofFn.1 ht
      exact (hfs i).1
end

end Go.Proofs.Ytdijhpcnlbjdaaa
