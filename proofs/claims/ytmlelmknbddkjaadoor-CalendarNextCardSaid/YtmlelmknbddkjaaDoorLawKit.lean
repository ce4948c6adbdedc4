/-
  From a contract to a row, for laws that answer true.
-/
import Derived.Test.YtmlelmknbddkjaaDoorLawC
import Derived.Test.YtmlelmknbddkjaaDoorCards
import Derived.Test.YtmlelmknbddkjaaDoorTie
import Derived.WalkKit
import Derived.ProofKit
import Derived.OpenShut
import Derived.ChangeSlices
import Derived.JoinedCond
import Derived.SizedLaws
import Derived.Deep.DeepHandedRow
import Derived.Lib.LaidTab
import Derived.Deep.Slices
import Derived.Deep.Fields
import Derived.ChangeSame
namespace Go.Proofs.YtmlelmknbddkjaaDoor
open Go.ChangeShapes Go.WideShapes Go.ChangeAt Go.RowKit

theorem own : ownKnob Tryd.prog.godebug = none := by kernel_rfl
theorem laidOut : laidOutB Tryd.prog = true := by kernel_rfl

theorem below_trodAll {H : Type} {enc : TypeId × Value → H} {P : Program} (hl : laidOutB P = true) {W W' : World} (hb : Below W.heap.size W W') :
    ∀ (ts : List TypeId) (vs : List Value) (ds : List (DataW H)) (ps : List MemPlace), (ts.all fun t => P.readableRec t && decide (t < P.types.size)) = true →
      DataW.TrodAll enc P W 0 (fun _ => true) true ts vs ds ps → (∀ x ∈ ps, x.block < W.heap.size) → DataW.TrodAll enc P W' 0 (fun b => decide (b < W.heap.size)) true ts vs ds ps
  | [], [], [], _, _, h, _ => h
  | [], _ :: _, _, _, _, h, _ => h.elim
  | [], [], _ :: _, _, _, h, _ => h.elim
  | _ :: _, [], _, _, _, h, _ => h.elim
  | _ :: _, _ :: _, [], _, _, h, _ => h.elim
  | t :: ts, v :: vs, d :: ds, ps, ht, h, hlt => by
    obtain ⟨p, q, h1, h2, e⟩ := h
    subst e
    simp only [List.all_cons, Bool.and_eq_true, decide_eq_true_eq] at ht
    exact ⟨p, q, Below.trod hl ht.1.1 ht.1.2 h1 hb (fun x hx => hlt x (List.mem_append_left _ hx)), below_trodAll hl hb ts vs ds q ht.2 h2 (fun x hx => hlt x (List.mem_append_right _ hx)), rfl⟩

/-- THE END OF A LAW: true, its arguments as they were, new memory alone. -/
theorem law_post {H : Type} {enc : TypeId × Value → H} {P : Program} {f : Func} {s : ChangeSpec} {tb : TypeId} (hl : laidOutB P = true) (hres : f.resultTypes = #[tb]) (htb : P.underlying tb = some .bool)
    (hts : (f.params.toList.all fun t => P.readableRec t && decide (t < P.types.size)) = true) (hvars : s.vars = []) {W W' : World} {args : Array Value} {ds : List (DataW H)} {before : List MemPlace}
    (hW : DataW.Whole enc P f.params.toList s.vars false W args.toList ds [] before)
    (er : (s.fn H (ds ++ [])).results = [.lit (.bool true)]) (ea : (s.fn H (ds ++ [])).args = ds) (ev : (s.fn H (ds ++ [])).vars = []) (hb : Below W.heap.size W W') :
    s.post enc P f false true false false W args (.bool true) W' := by
  have hlt := fun x hx => hW.lt x hx
  obtain ⟨p, q, hA, hV, hpq, _, _⟩ := id hW
  rw [hvars] at hV
  obtain ⟨_, rfl⟩ := trodVars_none hV
  rw [List.append_nil] at hpq
  subst hpq
  refine ⟨ds, [], before, [] ++ [], before, [], hW, ?_, ?_, ?_, hb.frame _, fun h => by cases h⟩
  · rw [hres, er]
    exact trodAll_cons_mk (shut_bool htb _) trodAll_mk0
  · rw [ea]
    exact below_trodAll hl hb _ _ _ _ hts hA (fun x hx => by simpa using hlt x hx)
  · rw [ev, hvars]
    rfl

theorem int_of {n : Int} (h : (Lit.int .i64 n).wf = true) : I64 n := by
  simp [Lit.wf, IntKind.min, IntKind.max, IntKind.signed, IntKind.bits] at h
  exact h
theorem u16_of {n : Int} (h : (Lit.int .u16 n).wf = true) : 0 ≤ n ∧ n ≤ 65535 := by
  simp [Lit.wf, IntKind.min, IntKind.max, IntKind.signed, IntKind.bits] at h
  exact h
theorem cellsInt : Tryd.prog.cellsOf 3 = 1 := by kernel_rfl
theorem cellsCity : Tryd.prog.cellsOf 24 = 6 := by kernel_rfl

section
variable {H : Type} {enc : TypeId × Value → H} {W : World} {r : Reach} {b0 : Nat}

/-- a list of integers among the arguments -/
theorem open_list {held : Bool} {fuel : Nat} {v : Value} {x : DataW H × List MemPlace} (h : DataW.trod enc Tryd.prog W 0 (fun _ => true) held fuel 22 [v] = some x) :
    ∃ l : List Int, Ints W v l ∧ (∀ z ∈ l, I64 z) ∧ ∀ n cap, v = .slice none n cap → cap = 0 := by
  rcases open_ints Tryd.underlying22 Tryd.underlying3 cellsInt h with ⟨hcs, -⟩ | ⟨a, len, cap, zs, hcs, -, hl, -, hz, -, hcell, hwz⟩
  · simp only [List.cons.injEq, and_true] at hcs
    subst hcs
    exact ⟨[], Ints.nil W, by simp, fun n cap e => by injection e with _ _ e; exact e.symm⟩
  · simp only [List.cons.injEq, and_true] at hcs
    subst hcs
    simp only [if_true] at hz
    have hlen : (zs.take len).length = len := by rw [List.length_take]; omega
    refine ⟨zs.take len, ⟨some a, cap, by rw [hlen], fun j x hj => ?_⟩, fun z hzm => int_of (hwz z (List.mem_of_mem_take hzm)), fun n c e => by injection e with e; cases e⟩
    rw [List.getElem?_take] at hj
    by_cases hjl : j < len
    · rw [if_pos hjl, List.getElem?_eq_getElem (by omega)] at hj
      simp at hj
      subst hj
      have hc := hcell j (by omega)
      have hsp : a.spot = none := by simpa [Addr.add] using World.cell?_spot (hcell 0 (by omega))
      obtain ⟨b, off, spot⟩ := a
      subst hsp
      have hadd : (⟨b, off, none⟩ : Addr).add j = ⟨b, off + j, none⟩ := by unfold Addr.add; split <;> simp_all
      rw [hadd] at hc
      refine ⟨b, off, rfl, World.block_lt_of_cell? W _ hc, ?_⟩
      rw [hc]
      simp [List.getD, List.getElem?_eq_getElem (show j < zs.length by omega)]
    · rw [if_neg hjl] at hj; simp at hj

/-- a city among the arguments -/
theorem open_city {v : Value} {d : DataW H} {p : List MemPlace} (hv : Value.okWide Tryd.prog W r b0 24 v) (h : DataW.Trod enc Tryd.prog W 0 (fun _ => true) true 24 v d p) :
    ∃ (nm : ByteArray) (o c : Int) (v3 v4 v5 : Value) (C : Lists), v = cityV nm o c v3 v4 v5 ∧ CityI W v3 v4 v5 C := by
  obtain ⟨cs, rfl, hsz⟩ := okWide_struct Tryd.underlying24 hv
  obtain ⟨fuel, hf⟩ := h
  obtain ⟨ys, n', _, _, _, hlen, hg⟩ := DataW.trod_struct Tryd.underlying24 hf
  rw [cellsCity] at hsz
  obtain ⟨l⟩ := cs
  match l, hsz with
  | [c0, c1, c2, c3, c4, c5], _ =>
    have hl : ys.length = 6 := hlen
    have hy : ∀ (j : Nat) {x : Option (DataW H × List MemPlace)}, x = ys[j]? → j < ys.length → x = some (ys[j]?.getD (.nil, [])) := by
      intro j x hx hj
      rw [hx, List.getElem?_eq_getElem hj]
      rfl
    have h0 := hg 0 _ rfl
    have h1 := hg 1 _ rfl
    have h2 := hg 2 _ rfl
    have h3 := hg 3 _ rfl
    have h4 := hg 4 _ rfl
    have h5 := hg 5 _ rfl
    simp only [Value.cells] at h0 h1 h2 h3 h4 h5
    have g0 : DataW.trod enc Tryd.prog W 0 (fun _ => true) true n' 9 [c0] = _ := hy 0 h0 (by omega)
    have g1 : DataW.trod enc Tryd.prog W 0 (fun _ => true) true n' 3 [c1] = _ := hy 1 h1 (by omega)
    have g2 : DataW.trod enc Tryd.prog W 0 (fun _ => true) true n' 3 [c2] = _ := hy 2 h2 (by omega)
    have g3 : DataW.trod enc Tryd.prog W 0 (fun _ => true) true n' 22 [c3] = _ := hy 3 h3 (by omega)
    have g4 : DataW.trod enc Tryd.prog W 0 (fun _ => true) true n' 22 [c4] = _ := hy 4 h4 (by omega)
    have g5 : DataW.trod enc Tryd.prog W 0 (fun _ => true) true n' 22 [c5] = _ := hy 5 h5 (by omega)
    obtain ⟨k0, e0, _, _⟩ := DataW.trod_string Tryd.underlying9 g0
    obtain ⟨k1, e1, _, _⟩ := DataW.trod_int Tryd.underlying3 g1
    obtain ⟨k2, e2, _, _⟩ := DataW.trod_int Tryd.underlying3 g2
    obtain ⟨l3, i3, _, _⟩ := open_list g3
    obtain ⟨l4, i4, w4, _⟩ := open_list g4
    obtain ⟨l5, i5, _, z5⟩ := open_list g5
    simp only [List.cons.injEq, and_true] at e0 e1 e2
    subst e0 e1 e2
    exact ⟨k0, k1, k2, c3, c4, c5, ⟨l3, l4, l5⟩, rfl, i3, i4, i5, w4, z5⟩
end

theorem gBef : Tryd.prog.globalNamed "allonge/calendar.before" = some 0 := by kernel_rfl
theorem gBefType : (Tryd.prog.globals[0]?).map (·.type) = some 59 := by kernel_rfl
theorem cellsBef : Tryd.prog.cellsOf 59 = 12 := by kernel_rfl

/-- WHAT THE ROWS' LIST GIVES: the variable holds the days before each month. -/
theorem bf_laid {W : World} (h : laidMetH Tryd.prog [("allonge/calendar.before", Rows.laid_allonge_calendar_before)] W) : Bf W := by
  have h1 : Lib.TabIs Tryd.prog W "allonge/calendar.before" .i64 Cal.bef :=
    Lib.tabIs_of_head (rest := []) gBef gBefType Tryd.underlying59 Tryd.underlying3 cellsInt cellsBef h
  have h2 : W.var? Tryd.prog "allonge/calendar.before" = some bfC := h1
  unfold World.var? at h2
  rw [gBef] at h2
  simp only [Option.bind_some] at h2
  split at h2
  · rename_i cs t fr hg
    obtain rfl := Option.some.inj h2
    exact ⟨t, fr, hg⟩
  · cases h2

/-- A WORLD FOR THE WITNESS: the settled one, the variable as its initialiser lays it. -/
noncomputable def laidWorld (os : Os) : World :=
  { World.holding Tryd.prog os ⟨#[], #[], []⟩ with heap := (World.holding Tryd.prog os ⟨#[], #[], []⟩).heap.modify 0 fun
      | .cells _ t frozen => .cells bfC t frozen
      | o => o }
theorem laid_met (os : Os) (args : Array Value) : laidMet Tryd.prog [("allonge/calendar.before", Rows.laid_allonge_calendar_before)] ((laidWorld os).forCall (fun _ _ => 0) ⟨#[], args, []⟩).memory :=
  laidMet_of_run' 8 (by kernel_rfl) (by kernel_rfl)

end Go.Proofs.YtmlelmknbddkjaaDoor
