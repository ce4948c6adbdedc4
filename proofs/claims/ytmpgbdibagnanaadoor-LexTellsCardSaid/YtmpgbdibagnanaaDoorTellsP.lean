/-
  LexTells, proved for every input (the row's condition: the package's table of signs holds what its initialiser lays; the card ties it to the program's text); a list of tokens among the arguments, opened.
-/
import Derived.Test.YtmpgbdibagnanaaDoorLawKit
import Derived.Test.YtmpgbdibagnanaaDoorLawG
import Derived.Deep.Slices
import Derived.Deep.Fields
import Derived.ChangeSame
namespace Go.Proofs.YtmpgbdibagnanaaDoor.LexTells
open Go.ChangeShapes Go.WideShapes Go.ChangeAt Go.RowKit Go.Deep
open Go.ChangeMaps (open_string shut_string)

theorem cellsT : Tryd.prog.cellsOf 25 = 4 := by kernel_rfl
theorem cells3 : Tryd.prog.cellsOf 3 = 1 := by kernel_rfl
theorem cells9 : Tryd.prog.cellsOf 9 = 1 := by kernel_rfl
theorem bytesT : Tryd.prog.bytesOf 25 = 40 := by kernel_rfl

section
variable {H : Type} {enc : TypeId × Value → H} {W : World} {v : Value} {d : DataW H} {p : List MemPlace} {r : Reach} {b0 : Nat}

/-- the cells of one token -/
theorem open_tok {sp : Nat → Bool} {held : Bool} {n : Nat} {cs : List Value} {y : DataW H × List MemPlace} (h : DataW.trod enc Tryd.prog W 0 sp held n 25 cs = some y) :
    ∃ t : TI, cs = tiC t ∧ t.text.length ≤ 9223372036854775807 := by
  obtain ⟨ys, n', _, _, hlen, _, hf⟩ := DataW.trod_struct Tryd.underlying25 h
  rw [cellsT] at hlen
  match cs, hlen with
  | [c0, c1, c2, c3], _ =>
    have h0 : DataW.trod enc Tryd.prog W 0 sp held n' 3 (([c0, c1, c2, c3].drop 0).take (Tryd.prog.cellsOf 3)) = ys[0]? := hf 0 _ rfl
    rw [cells3] at h0
    have h1 : DataW.trod enc Tryd.prog W 0 sp held n' 9 (([c0, c1, c2, c3].drop 1).take (Tryd.prog.cellsOf 9)) = ys[1]? := hf 1 _ rfl
    rw [cells9] at h1
    have h2 : DataW.trod enc Tryd.prog W 0 sp held n' 3 (([c0, c1, c2, c3].drop 2).take (Tryd.prog.cellsOf 3)) = ys[2]? := hf 2 _ rfl
    rw [cells3] at h2
    have h3 : DataW.trod enc Tryd.prog W 0 sp held n' 3 (([c0, c1, c2, c3].drop 3).take (Tryd.prog.cellsOf 3)) = ys[3]? := hf 3 _ rfl
    rw [cells3] at h3
    have hy : ∀ (j : Nat) {x : Option (DataW H × List MemPlace)}, x = ys[j]? → j < ys.length → x = some (ys[j]?.getD (.nil, [])) := by
      intro j x hx hj
      rw [hx, List.getElem?_eq_getElem hj]
      rfl
    have hl : ys.length = 4 := by assumption
    have g0 : DataW.trod enc Tryd.prog W 0 sp held n' 3 [c0] = _ := hy 0 h0 (by omega)
    have g1 : DataW.trod enc Tryd.prog W 0 sp held n' 9 [c1] = _ := hy 1 h1 (by omega)
    have g2 : DataW.trod enc Tryd.prog W 0 sp held n' 3 [c2] = _ := hy 2 h2 (by omega)
    have g3 : DataW.trod enc Tryd.prog W 0 sp held n' 3 [c3] = _ := hy 3 h3 (by omega)
    obtain ⟨k0, e0, _, _⟩ := DataW.trod_int Tryd.underlying3 g0
    obtain ⟨k1, e1, _, hw⟩ := DataW.trod_string Tryd.underlying9 g1
    obtain ⟨k2, e2, _, _⟩ := DataW.trod_int Tryd.underlying3 g2
    obtain ⟨k3, e3, _, _⟩ := DataW.trod_int Tryd.underlying3 g3
    simp only [List.cons.injEq, and_true] at e0 e1 e2 e3
    refine ⟨⟨k0, k1.data.toList, k2, k3⟩, ?_, ?_⟩
    · rw [e0, e1, e2, e3]; rfl
    · rw [← size_of]; exact hw

theorem open_toks (hval : Value.okWide Tryd.prog W r b0 22 v) (h : DataW.Trod enc Tryd.prog W 0 (fun _ => true) true 22 v d p) :
    ∃ L : List TI, TAt W v L ∧ (∀ t ∈ L, t.text.length ≤ 9223372036854775807) ∧ (L = [] ∨ ∃ elems spare, d = .slice elems spare ∧ elems.length = L.length) := by
  obtain ⟨a0, len, cap, rfl⟩ := okWide_slice Tryd.underlying22 hval
  obtain ⟨fuel, hf⟩ := h
  rcases open_slice Tryd.underlying22 hf with ⟨hcs, hx⟩ | ⟨a, len', cap', m, n, D, Pl, hcs, _, hl, _, hm, hx, hi⟩
  · simp [Value.cells] at hcs
    obtain ⟨rfl, rfl, rfl⟩ := hcs
    exact ⟨[], ⟨none, 0, rfl, fun j t hj => by simp at hj⟩, by simp, .inl rfl⟩
  · simp [Value.cells] at hcs
    obtain ⟨rfl, rfl, rfl⟩ := hcs
    simp only [Prod.mk.injEq] at hx
    obtain ⟨rfl, _⟩ := hx
    simp only [if_true] at hm
    have hall : ∀ i : Fin len, ∃ t : TI, t.text.length ≤ 9223372036854775807 ∧ ∀ j, j < 4 → W.cell? ((a.add (i.val * 4)).add j) = (tiC t)[j]? := by
      intro i
      obtain ⟨cs', hc, ht⟩ := hi i.val (by have := i.isLt; omega)
      obtain ⟨t, rfl, hw⟩ := open_tok ht
      rw [cellsT] at hc
      exact ⟨t, hw, (World.cells?_some hc).2.2⟩
    let f : Fin len → TI := fun i => Classical.choose (hall i)
    have hfs : ∀ i : Fin len, (f i).text.length ≤ 9223372036854775807 ∧ ∀ j, j < 4 → W.cell? ((a.add (i.val * 4)).add j) = (tiC (f i))[j]? := fun i => Classical.choose_spec (hall i)
    have hlen : (List.ofFn f).length = len := by simp
    refine ⟨List.ofFn f, ⟨some a, cap, by rw [hlen], fun j t hj => ?_⟩, fun t ht => ?_, .inr ⟨_, _, rfl, by rw [hlen]; simp⟩⟩
    · have hjl : j < len := by
        have := (List.getElem?_eq_some_iff.1 hj).1
        rw [hlen] at this
        exact this
      have het : f ⟨j, hjl⟩ = t := by
        rw [List.getElem?_eq_getElem (by rw [hlen]; exact hjl)] at hj
        simpa using hj
      have hsp : a.spot = none := by
        have h0 := (hfs ⟨0, by omega⟩).2 0 (by omega)
        have e : (a.add (0 * 4)).add 0 = a := by simp [Addr.add]
        rw [e] at h0
        exact World.cell?_spot (v := .int .i64 (f ⟨0, by omega⟩).kind) h0
      have hc := (hfs ⟨j, hjl⟩).2
      rw [het] at hc
      obtain ⟨b, off, spot⟩ := a
      simp only at hsp
      subst hsp
      have hadd : ∀ i, ((⟨b, off, none⟩ : Addr).add (j * 4)).add i = ⟨b, off + j * 4 + i, none⟩ := by
        intro i
        unfold Addr.add
        by_cases h1 : j * 4 = 0 <;> by_cases h2 : i = 0 <;> simp [h1, h2]
      have q0 := hc 0 (by omega)
      have q1 := hc 1 (by omega)
      have q2 := hc 2 (by omega)
      have q3 := hc 3 (by omega)
      simp only [hadd] at q0 q1 q2 q3
      exact ⟨b, off, rfl, World.block_lt_of_cell? W ⟨b, off + j * 4 + 0, none⟩ q0, q0, q1, q2, q3⟩
    · obtain ⟨i, rfl⟩ := List.mem_ofFn.1 ht
      exact (hfs i).1
end

theorem reads (os : Os) {H : Type} (enc : TypeId × Value → H) : ∃ places, DataW.whole enc Tryd.prog ((laidWorld os).forCall (fun _ _ => 0) ⟨#[], #[.string .empty, .slice none 0 0], []⟩).memory Tryd.f3.params.toList Rows.lexTellsSpec.vars false (#[.string .empty, .slice none 0 0] : Array Value).toList 8 = some ([.lit (.string []), .nil], [], places) :=
  ⟨[], by kernel_rfl⟩

set_option maxRecDepth 100000 in
theorem lifted (os : Os) (started : os.Started) (H : Type) (enc : TypeId × Value → H) (F : Stop.Interp) :
    ReturnsInHanded {} Tryd.checked os 3 .any ((OpenSpec.ofChange Rows.lexTellsSpec).preRow enc Tryd.prog Tryd.f3 Rows.lexTellsRow.domain false Rows.lexTellsRow.laid) (((OpenSpec.ofChange Rows.lexTellsSpec).at F).post enc Tryd.prog Tryd.f3 false true false false) := by
  obtain ⟨places, hx⟩ := reads os enc
  refine returnsInHanded_of_row (C := Tryd.checked) (s := OpenSpec.ofChange Rows.lexTellsSpec) own started (by kernel_rfl) Tryd.func3
    (witness_row_at (enc := enc) (C := Tryd.checked) false (laidWorld os) #[.string .empty, .slice none 0 0] rfl (by kernel_rfl) (by kernel_rfl) (by kernel_rfl)
      (OpenSpec.preRow_of_cond 8 hx (by kernel_rfl) (fun k hk => by cases hk) (by kernel_rfl) (laid_met os _))) ?_
  intro W base args ds gs before hval0 hW _ _ hsz0 hlaid _ _
  have hsz : (DataW.weightsEach Tryd.prog (Tryd.f3.params.toList ++ Rows.lexTellsSpec.plain.varTypes Tryd.prog) (ds ++ gs)).all (· ≤ reachBytes) = true := hsz0
  clear hsz0
  have hval : ∀ (j : Nat) t v, Tryd.f3.params[j]? = some t → args[j]? = some v → Value.okWide Tryd.prog W .any base t v := hval0
  have hW' := hW
  obtain ⟨p, q, hA0, hV, rfl, _, _⟩ := hW
  have hA : DataW.TrodAll enc Tryd.prog W 0 (fun _ => true) true Tryd.f3.params.toList args.toList ds p := hA0
  rw [Tryd.params3] at hA hval hsz
  obtain ⟨v0, vs0, d0, ds0, p0, q0, hargs, rfl, rfl, h0, r0⟩ := trodAll_cons hA
  obtain ⟨v1, vs1, d1, ds1, p1, q1, rfl, rfl, rfl, h1, r1⟩ := trodAll_cons r0
  obtain ⟨rfl, rfl, rfl⟩ := trodAll_nil r1
  obtain rfl : args = #[v0, v1] := by cases args; simp_all
  obtain ⟨rfl, rfl⟩ := trodVars_none hV
  obtain ⟨s0, rfl, rfl, rfl, _⟩ := open_string Tryd.underlying9 (hval 0 9 v0 rfl rfl) h0
  have z0 := sized_string hsz (j := 0) rfl rfl
  obtain ⟨L, hL, hLs, hLd⟩ := open_toks (hval 1 22 v1 rfl rfl) h1
  have hl : L.length ≤ 140737488351232 := by
    rcases hLd with rfl | ⟨elems, spare, rfl, he⟩
    · simp
    · have := sized_slice hsz (j := 1) (t := 22) (e := 25) rfl rfl Tryd.underlying22
      rw [bytesT] at this
      simp only [reachBytes] at this
      omega
  refine (LexTells_x lexOk s0 v1 L W (sg_laid hlaid) (size_lit z0) hL hl hLs).mono fun e W' ⟨he, hb⟩ => ?_
  subst he
  exact ⟨_, rfl, law_post (s := Rows.lexTellsSpec) laidOut rfl Tryd.underlying4 (by kernel_rfl) rfl hW' rfl rfl rfl hb⟩

theorem said : Rows.LexTellsSaid :=
  OpenClaim.holds_of_cond 3 Tryd.f3 rfl rfl rfl rfl rfl rfl rfl ⟨rfl, rfl, rfl, rfl, rfl⟩ rfl rfl rfl rfl rfl (by kernel_rfl) Tryd.func3 (by kernel_rfl)
    (of_decide_eq_true (by kernel_rfl)) (by unfold Func.isWrapper; first | (rw [if_pos (by decide +kernel)]; kernel_rfl) | (rw [if_neg (by decide +kernel)]; exact ⟨rfl, rfl⟩))
    (fun os started H enc _ F => by rw [OpenClaim.pre_eq_preRow]; exact lifted os started H enc F)

theorem plain (f : FuncId) (fn : Func) (hf : Tryd.pinned.checked.prog.funcNamed "allonge/allongelaw02.LexTells" = some f) (hfn : Tryd.pinned.checked.prog.funcs[f]? = some fn) :
    false = Tryd.pinned.checked.prog.looks [] ∧ ∀ (j : Nat) t, fn.params[j]? = some t → Tryd.pinned.checked.prog.wantsStandIn t = false := by
  obtain rfl : f = 3 := Option.some.inj ((show Tryd.prog.funcNamed "allonge/allongelaw02.LexTells" = some 3 by kernel_rfl).symm.trans hf) |>.symm
  obtain rfl : fn = Tryd.f3 := (Option.some.inj (Tryd.func3.symm.trans hfn)).symm
  refine ⟨by kernel_rfl, fun j t ht => ?_⟩
  rw [Tryd.params3] at ht
  have h : t = 9 ∨ t = 22 := by simpa using Array.mem_of_getElem? ht
  rcases h with rfl | rfl
  · exact (show Tryd.prog.wantsStandIn 9 = false by kernel_rfl)
  · exact (show Tryd.prog.wantsStandIn 22 = false by kernel_rfl)

/-- THE CARD. -/
theorem proved : Rows.LexTellsCardSaid :=
  Claim7.holds_tied_plain_at .later [] _ _ _ _ said (fun _ h => by cases h) (by kernel_rfl) (fun _ h => by cases h) lexTells_row_tie rfl ⟨rfl, rfl⟩ (by kernel_rfl) rfl plain (by kernel_rfl)
end Go.Proofs.YtmpgbdibagnanaaDoor.LexTells
