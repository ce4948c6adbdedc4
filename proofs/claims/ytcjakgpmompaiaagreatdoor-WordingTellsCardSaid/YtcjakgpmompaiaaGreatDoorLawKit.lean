/-
  From a contract to a row, for laws that answer true.
-/
import Derived.Test.YtcjakgpmompaiaaGreatDoorMem
import Derived.Test.YtcjakgpmompaiaaGreatDoorRows
import Derived.WalkKit
import Derived.ProofKit
import Derived.OpenShut
import Derived.SliceStrings
import Derived.JoinedCond
import Derived.SizedLaws
import Derived.Lib.SmallJoins
import Derived.Deep.Slices
import Derived.Deep.Fields
import Derived.ChangeSame
namespace Go.Proofs.YtcjakgpmompaiaaGreatDoor
open Go.ChangeShapes Go.WideShapes Go.ChangeAt Go.RowKit
open Go.Deep Rl

theorem own : ownKnob Tryz.prog.godebug = none := by kernel_rfl
theorem laidOut : laidOutB Tryz.prog = true := by kernel_rfl

theorem below_trodAll {H : Type} {enc : TypeId × Value → H} {P : Program} (hl : laidOutB P = true) {W W' : World} (hb : Below W.heap.size W W') :
    ∀ (ts : List TypeId) (vs : List Value) (ds : List (DataW H)) (ps : List MemPlace), (ts.all fun t => P.readableRec t && decide (t < P.types.size)) = true →
      DataW.TrodAll enc P W 0 (fun _ => true) true ts vs ds ps → (∀ x ∈ ps, x.block < W.heap.size) → DataW.TrodAll enc P W' 0 (fun b => decide (b < W.heap.size)) true ts vs ds ps
  | [], [], [], _, _, h, _ => h
  | [], _ :: _, _, _, _, h, _ => h.elim
  | [], [], _ :: _, _, _, h, _ => h.elim
  | _ :: _, [], _, _, _, h, _ => h.elim
  | _ :: _, _ :: _, [], _, _, h, _ => h.elim
  | t :: ts, v :: vs, d :: ds, ps, ht, h, hlt => by
    obtain ⟨p, q, h1, h2, e⟩ := h
    subst e
    simp only [List.all_cons, Bool.and_eq_true, decide_eq_true_eq] at ht
    exact ⟨p, q, Below.trod hl ht.1.1 ht.1.2 h1 hb (fun x hx => hlt x (List.mem_append_left _ hx)), below_trodAll hl hb ts vs ds q ht.2 h2 (fun x hx => hlt x (List.mem_append_right _ hx)), rfl⟩

/-- THE END OF A LAW: true, its arguments as they were, new memory alone. -/
theorem law_post {H : Type} {enc : TypeId × Value → H} {P : Program} {f : Func} {s : ChangeSpec} {tb : TypeId} (hl : laidOutB P = true) (hres : f.resultTypes = #[tb]) (htb : P.underlying tb = some .bool)
    (hts : (f.params.toList.all fun t => P.readableRec t && decide (t < P.types.size)) = true) (hvars : s.vars = []) {W W' : World} {args : Array Value} {ds : List (DataW H)} {before : List MemPlace}
    (hW : DataW.Whole enc P f.params.toList s.vars false W args.toList ds [] before)
    (er : (s.fn H (ds ++ [])).results = [.lit (.bool true)]) (ea : (s.fn H (ds ++ [])).args = ds) (ev : (s.fn H (ds ++ [])).vars = []) (hb : Below W.heap.size W W') :
    s.post enc P f false true false false W args (.bool true) W' := by
  have hlt := fun x hx => hW.lt x hx
  obtain ⟨p, q, hA, hV, hpq, _, _⟩ := id hW
  rw [hvars] at hV
  obtain ⟨_, rfl⟩ := trodVars_none hV
  rw [List.append_nil] at hpq
  subst hpq
  refine ⟨ds, [], before, [] ++ [], before, [], hW, ?_, ?_, ?_, hb.frame _, fun h => by cases h⟩
  · rw [hres, er]
    exact trodAll_cons_mk (shut_bool htb _) trodAll_mk0
  · rw [ea]
    exact below_trodAll hl hb _ _ _ _ hts hA (fun x hx => by simpa using hlt x hx)
  · rw [ev, hvars]
    rfl

theorem int_of {n : Int} (h : (Lit.int .i64 n).wf = true) : I64 n := by
  simp [Lit.wf, IntKind.min, IntKind.max, IntKind.signed, IntKind.bits] at h
  exact h

section
variable {H : Type} {enc : TypeId × Value → H} {W : World} {v : Value} {d : DataW H} {p : List MemPlace} {r : Go.Reach} {b0 : Nat}

theorem len_max {n : Nat} (h : n ≤ maxLen) : Sz n := by unfold maxLen at h; unfold Sz; omega
theorem add_plain (g o j : Nat) : (⟨g, o, none⟩ : Addr).add j = ⟨g, o + j, none⟩ := by unfold Addr.add; split <;> simp_all
theorem LAt.nil' {T : Type} (w : World) (k : Nat) (c : T → List Value) : LAt w k c (.slice none 0 0) [] := ⟨KAt.nil w k⟩
/-- a list of elements that can be opened -/
theorem open_L {T : Type} {c : T → List Value} {Q : T → Prop} {k : Nat} {t e : TypeId} (ht : Tryz.prog.underlying t = some (.slice e)) (hk : Tryz.prog.cellsOf e = k) (hpos : 0 < k) (hlen : ∀ q : T, (c q).length = k)
    (hel : ∀ {n : Nat} {cs : List Value} {y : DataW H × List MemPlace}, DataW.trod enc Tryz.prog W 0 (fun _ => true) true n e cs = some y → ∃ q : T, cs = c q ∧ Q q)
    {fuel : Nat} {x : DataW H × List MemPlace} (h : DataW.trod enc Tryz.prog W 0 (fun _ => true) true fuel t [v] = some x) :
    ∃ (l : List T) (a : Option Addr) (cap : Nat), v = .slice a l.length cap ∧ LAt W k c v l ∧ Sz l.length ∧ ∀ q ∈ l, Q q := by
  rcases open_slice ht h with ⟨hcs, hx⟩ | ⟨a, len, cap, m, n, D, Pl, hcs, _, hl, hmx, hm, hx, hi⟩
  · simp only [List.cons.injEq, and_true] at hcs
    subst hcs
    exact ⟨[], none, 0, rfl, LAt.nil' W k c, by unfold Sz; simp, fun s hs => absurd hs (List.not_mem_nil)⟩
  · simp only [List.cons.injEq, and_true] at hcs
    subst hcs
    simp only [if_true] at hm
    have hall : ∀ i : Fin len, ∃ q : T, Q q ∧ ∀ j, j < k → W.cell? ((a.add (i.val * k)).add j) = (c q)[j]? := by
      intro i
      obtain ⟨cs', hc, ht'⟩ := hi i.val (by have := i.isLt; omega)
      obtain ⟨q, rfl, hw⟩ := hel ht'
      rw [hk] at hc
      exact ⟨q, hw, (World.cells?_some hc).2.2⟩
    let f : Fin len → T := fun i => Classical.choose (hall i)
    have hfs : ∀ i : Fin len, Q (f i) ∧ ∀ j, j < k → W.cell? ((a.add (i.val * k)).add j) = (c (f i))[j]? := fun i => Classical.choose_spec (hall i)
    have hln : (List.ofFn f).length = len := by simp
    refine ⟨List.ofFn f, some a, cap, by rw [hln], ⟨⟨some a, cap, by rw [List.length_map, hln], by rw [List.length_map, hln]; exact hl, fun j x hj => ?_⟩⟩, by rw [hln]; exact len_max (Nat.le_trans hl hmx), fun q hq => ?_⟩
    · rw [List.getElem?_map] at hj
      obtain ⟨q, hq, rfl⟩ := Option.map_eq_some_iff.1 hj
      have hjl : j < len := by
        have := (List.getElem?_eq_some_iff.1 hq).1
        rw [hln] at this
        exact this
      have het : f ⟨j, hjl⟩ = q := by
        rw [List.getElem?_eq_getElem (by rw [hln]; exact hjl)] at hq
        simpa using hq
      have hsp : a.spot = none := by
        have h0 := (hfs ⟨0, by omega⟩).2 0 hpos
        have e : (a.add (0 * k)).add 0 = a := by simp [Addr.add]
        rw [e, List.getElem?_eq_getElem (by rw [hlen]; exact hpos)] at h0
        exact World.cell?_spot h0
      have hc := (hfs ⟨j, hjl⟩).2
      rw [het] at hc
      obtain ⟨b, off, spot⟩ := a
      simp only at hsp
      subst hsp
      have q0 := hc 0 hpos
      rw [add_plain, add_plain, List.getElem?_eq_getElem (by rw [hlen]; exact hpos)] at q0
      refine ⟨b, off, rfl, World.block_lt_of_cell? W _ q0, fun i y hy => ?_⟩
      have hik : i < k := by rw [← hlen q]; exact (List.getElem?_eq_some_iff.1 hy).1
      have q1 := hc i hik
      rw [add_plain, add_plain, hy] at q1
      exact q1
    · obtain ⟨i, rfl⟩ := List.mem_ofFn.1 hq
      exact (hfs i).1
theorem open_str {n : Nat} {cs : List Value} {y : DataW H × List MemPlace} (h : DataW.trod enc Tryz.prog W 0 (fun _ => true) true n 9 cs = some y) : ∃ q : B, cs = cStr q ∧ True := by
  obtain ⟨k, e, _, _⟩ := DataW.trod_string Tryz.underlying9 h
  exact ⟨k, e, trivial⟩
theorem open_int1 {n : Nat} {cs : List Value} {y : DataW H × List MemPlace} (h : DataW.trod enc Tryz.prog W 0 (fun _ => true) true n 3 cs = some y) : ∃ q : Int, cs = cInt q ∧ I64 q := by
  obtain ⟨k, e, _, o⟩ := DataW.trod_int Tryz.underlying3 h
  exact ⟨k, e, int_of o⟩
theorem open_ints' {fuel : Nat} {x : DataW H × List MemPlace} (h : DataW.trod enc Tryz.prog W 0 (fun _ => true) true fuel 73 [v] = some x) :
    ∃ (l : List Int) (a : Option Addr) (cap : Nat), v = .slice a l.length cap ∧ IAt W v l ∧ Sz l.length ∧ ∀ q ∈ l, I64 q :=
  open_L Tryz.underlying73 (by kernel_rfl) (by decide) (fun _ => rfl) open_int1 h
theorem open_any {t e : TypeId} (ht : Tryz.prog.underlying t = some (.slice e)) {fuel : Nat} {x : DataW H × List MemPlace} (h : DataW.trod enc Tryz.prog W 0 (fun _ => true) true fuel t [v] = some x) : ∃ (a : Option Addr) (m k : Nat), v = .slice a m k := by
  rcases open_slice ht h with ⟨hcs, hx⟩ | ⟨a, len, cap, m, n, D, Pl, hcs, _, hl, hmx, hm, hx, hi⟩
  · simp only [List.cons.injEq, and_true] at hcs
    exact ⟨none, 0, 0, hcs⟩
  · simp only [List.cons.injEq, and_true] at hcs
    exact ⟨some a, len, cap, hcs⟩
set_option maxRecDepth 100000 in
theorem open_grp {n : Nat} {cs : List Value} {y : DataW H × List MemPlace} (h : DataW.trod enc Tryz.prog W 0 (fun _ => true) true n 81 cs = some y) :
    ∃ q : Int, cs = cInt q ∧ True := by
  obtain ⟨ys, n', _, _, hlen, hys, hf⟩ := DataW.trod_struct Tryz.underlying81 h
  rw [show Tryz.prog.cellsOf 81 = 1 from by kernel_rfl] at hlen
  match cs, hlen with
  | [c0], _ =>
    have hl : ys.length = 1 := by assumption
    have hy : ∀ (j : Nat) {x : Option (DataW H × List MemPlace)}, x = ys[j]? → j < ys.length → x = some (ys[j]?.getD (.nil, [])) := by
      intro j x hx hj
      rw [hx, List.getElem?_eq_getElem hj]
      rfl
    have g0 : DataW.trod enc Tryz.prog W 0 (fun _ => true) true n' 3 [c0] = _ := hy 0 (hf 0 _ rfl) (by omega)
    obtain ⟨k0, e0, _, o0⟩ := DataW.trod_int Tryz.underlying3 g0
    simp only [List.cons.injEq, and_true] at e0
    subst e0
    exact ⟨k0, rfl, trivial⟩
set_option maxRecDepth 100000 in
theorem open_frm {n : Nat} {cs : List Value} {y : DataW H × List MemPlace} (h : DataW.trod enc Tryz.prog W 0 (fun _ => true) true n 78 cs = some y) :
    ∃ q : Frm, cs = cFrm q ∧ True := by
  obtain ⟨ys, n', _, _, hlen, hys, hf⟩ := DataW.trod_struct Tryz.underlying78 h
  rw [show Tryz.prog.cellsOf 78 = 3 from by kernel_rfl] at hlen
  match cs, hlen with
  | [c0, c1, c2], _ =>
    have hl : ys.length = 3 := by assumption
    have hy : ∀ (j : Nat) {x : Option (DataW H × List MemPlace)}, x = ys[j]? → j < ys.length → x = some (ys[j]?.getD (.nil, [])) := by
      intro j x hx hj
      rw [hx, List.getElem?_eq_getElem hj]
      rfl
    have g0 : DataW.trod enc Tryz.prog W 0 (fun _ => true) true n' 9 [c0] = _ := hy 0 (hf 0 _ rfl) (by omega)
    have g1 : DataW.trod enc Tryz.prog W 0 (fun _ => true) true n' 3 [c1] = _ := hy 1 (hf 1 _ rfl) (by omega)
    have g2 : DataW.trod enc Tryz.prog W 0 (fun _ => true) true n' 3 [c2] = _ := hy 2 (hf 2 _ rfl) (by omega)
    obtain ⟨k0, e0, _, _⟩ := DataW.trod_string Tryz.underlying9 g0
    obtain ⟨k1, e1, _, o1⟩ := DataW.trod_int Tryz.underlying3 g1
    obtain ⟨k2, e2, _, o2⟩ := DataW.trod_int Tryz.underlying3 g2
    simp only [List.cons.injEq, and_true] at e0 e1 e2
    subst e0 e1 e2
    exact ⟨⟨k0, k1, k2⟩, rfl, trivial⟩
set_option maxRecDepth 100000 in
theorem open_usn {n : Nat} {cs : List Value} {y : DataW H × List MemPlace} (h : DataW.trod enc Tryz.prog W 0 (fun _ => true) true n 97 cs = some y) :
    ∃ q : Usn, cs = cUsn q ∧ True := by
  obtain ⟨ys, n', _, _, hlen, hys, hf⟩ := DataW.trod_struct Tryz.underlying97 h
  rw [show Tryz.prog.cellsOf 97 = 3 from by kernel_rfl] at hlen
  match cs, hlen with
  | [c0, c1, c2], _ =>
    have hl : ys.length = 3 := by assumption
    have hy : ∀ (j : Nat) {x : Option (DataW H × List MemPlace)}, x = ys[j]? → j < ys.length → x = some (ys[j]?.getD (.nil, [])) := by
      intro j x hx hj
      rw [hx, List.getElem?_eq_getElem hj]
      rfl
    have g0 : DataW.trod enc Tryz.prog W 0 (fun _ => true) true n' 3 [c0] = _ := hy 0 (hf 0 _ rfl) (by omega)
    have g1 : DataW.trod enc Tryz.prog W 0 (fun _ => true) true n' 3 [c1] = _ := hy 1 (hf 1 _ rfl) (by omega)
    have g2 : DataW.trod enc Tryz.prog W 0 (fun _ => true) true n' 3 [c2] = _ := hy 2 (hf 2 _ rfl) (by omega)
    obtain ⟨k0, e0, _, o0⟩ := DataW.trod_int Tryz.underlying3 g0
    obtain ⟨k1, e1, _, o1⟩ := DataW.trod_int Tryz.underlying3 g1
    obtain ⟨k2, e2, _, o2⟩ := DataW.trod_int Tryz.underlying3 g2
    simp only [List.cons.injEq, and_true] at e0 e1 e2
    subst e0 e1 e2
    exact ⟨⟨k0, k1, k2⟩, rfl, trivial⟩
set_option maxRecDepth 100000 in
theorem open_rte {n : Nat} {cs : List Value} {y : DataW H × List MemPlace} (h : DataW.trod enc Tryz.prog W 0 (fun _ => true) true n 150 cs = some y) :
    ∃ q : Rte, cs = cRat q ∧ True := by
  obtain ⟨ys, n', _, _, hlen, hys, hf⟩ := DataW.trod_struct Tryz.underlying150 h
  rw [show Tryz.prog.cellsOf 150 = 5 from by kernel_rfl] at hlen
  match cs, hlen with
  | [c0, c1, c2, c3, c4], _ =>
    have hl : ys.length = 5 := by assumption
    have hy : ∀ (j : Nat) {x : Option (DataW H × List MemPlace)}, x = ys[j]? → j < ys.length → x = some (ys[j]?.getD (.nil, [])) := by
      intro j x hx hj
      rw [hx, List.getElem?_eq_getElem hj]
      rfl
    have g0 : DataW.trod enc Tryz.prog W 0 (fun _ => true) true n' 3 [c0] = _ := hy 0 (hf 0 _ rfl) (by omega)
    have g1 : DataW.trod enc Tryz.prog W 0 (fun _ => true) true n' 3 [c1] = _ := hy 1 (hf 1 _ rfl) (by omega)
    have g2 : DataW.trod enc Tryz.prog W 0 (fun _ => true) true n' 3 [c2] = _ := hy 2 (hf 2 _ rfl) (by omega)
    have g3 : DataW.trod enc Tryz.prog W 0 (fun _ => true) true n' 3 [c3] = _ := hy 3 (hf 3 _ rfl) (by omega)
    have g4 : DataW.trod enc Tryz.prog W 0 (fun _ => true) true n' 3 [c4] = _ := hy 4 (hf 4 _ rfl) (by omega)
    obtain ⟨k0, e0, _, o0⟩ := DataW.trod_int Tryz.underlying3 g0
    obtain ⟨k1, e1, _, o1⟩ := DataW.trod_int Tryz.underlying3 g1
    obtain ⟨k2, e2, _, o2⟩ := DataW.trod_int Tryz.underlying3 g2
    obtain ⟨k3, e3, _, o3⟩ := DataW.trod_int Tryz.underlying3 g3
    obtain ⟨k4, e4, _, o4⟩ := DataW.trod_int Tryz.underlying3 g4
    simp only [List.cons.injEq, and_true] at e0 e1 e2 e3 e4
    subst e0 e1 e2 e3 e4
    exact ⟨⟨k0, k1, k2, k3, k4⟩, rfl, trivial⟩
set_option maxRecDepth 100000 in
theorem open_hlt {n : Nat} {cs : List Value} {y : DataW H × List MemPlace} (h : DataW.trod enc Tryz.prog W 0 (fun _ => true) true n 156 cs = some y) :
    ∃ q : Hlt, cs = cHlt q ∧ True := by
  obtain ⟨ys, n', _, _, hlen, hys, hf⟩ := DataW.trod_struct Tryz.underlying156 h
  rw [show Tryz.prog.cellsOf 156 = 3 from by kernel_rfl] at hlen
  match cs, hlen with
  | [c0, c1, c2], _ =>
    have hl : ys.length = 3 := by assumption
    have hy : ∀ (j : Nat) {x : Option (DataW H × List MemPlace)}, x = ys[j]? → j < ys.length → x = some (ys[j]?.getD (.nil, [])) := by
      intro j x hx hj
      rw [hx, List.getElem?_eq_getElem hj]
      rfl
    have g0 : DataW.trod enc Tryz.prog W 0 (fun _ => true) true n' 3 [c0] = _ := hy 0 (hf 0 _ rfl) (by omega)
    have g1 : DataW.trod enc Tryz.prog W 0 (fun _ => true) true n' 3 [c1] = _ := hy 1 (hf 1 _ rfl) (by omega)
    have g2 : DataW.trod enc Tryz.prog W 0 (fun _ => true) true n' 3 [c2] = _ := hy 2 (hf 2 _ rfl) (by omega)
    obtain ⟨k0, e0, _, o0⟩ := DataW.trod_int Tryz.underlying3 g0
    obtain ⟨k1, e1, _, o1⟩ := DataW.trod_int Tryz.underlying3 g1
    obtain ⟨k2, e2, _, o2⟩ := DataW.trod_int Tryz.underlying3 g2
    simp only [List.cons.injEq, and_true] at e0 e1 e2
    subst e0 e1 e2
    exact ⟨⟨k0, k1, k2⟩, rfl, trivial⟩
set_option maxRecDepth 100000 in
theorem open_chc {n : Nat} {cs : List Value} {y : DataW H × List MemPlace} (h : DataW.trod enc Tryz.prog W 0 (fun _ => true) true n 135 cs = some y) :
    ∃ q : Chc, cs = cChc q ∧ True := by
  obtain ⟨ys, n', _, _, hlen, hys, hf⟩ := DataW.trod_struct Tryz.underlying135 h
  rw [show Tryz.prog.cellsOf 135 = 3 from by kernel_rfl] at hlen
  match cs, hlen with
  | [c0, c1, c2], _ =>
    have hl : ys.length = 3 := by assumption
    have hy : ∀ (j : Nat) {x : Option (DataW H × List MemPlace)}, x = ys[j]? → j < ys.length → x = some (ys[j]?.getD (.nil, [])) := by
      intro j x hx hj
      rw [hx, List.getElem?_eq_getElem hj]
      rfl
    have g0 : DataW.trod enc Tryz.prog W 0 (fun _ => true) true n' 3 [c0] = _ := hy 0 (hf 0 _ rfl) (by omega)
    have g1 : DataW.trod enc Tryz.prog W 0 (fun _ => true) true n' 3 [c1] = _ := hy 1 (hf 1 _ rfl) (by omega)
    have g2 : DataW.trod enc Tryz.prog W 0 (fun _ => true) true n' 4 [c2] = _ := hy 2 (hf 2 _ rfl) (by omega)
    obtain ⟨k0, e0, _, o0⟩ := DataW.trod_int Tryz.underlying3 g0
    obtain ⟨k1, e1, _, o1⟩ := DataW.trod_int Tryz.underlying3 g1
    obtain ⟨k2, e2, _⟩ := DataW.trod_bool Tryz.underlying4 g2
    simp only [List.cons.injEq, and_true] at e0 e1 e2
    subst e0 e1 e2
    exact ⟨⟨k0, k1, k2⟩, rfl, trivial⟩
set_option maxRecDepth 100000 in
theorem open_term {n : Nat} {cs : List Value} {y : DataW H × List MemPlace} (h : DataW.trod enc Tryz.prog W 0 (fun _ => true) true n 138 cs = some y) :
    ∃ q : Int × Int × Option Addr × Nat × Nat, cs = (fun q => [.int .i64 q.1, .int .i64 q.2.1, .slice q.2.2.1 q.2.2.2.1 q.2.2.2.2]) q ∧ True := by
  obtain ⟨ys, n', _, _, hlen, hys, hf⟩ := DataW.trod_struct Tryz.underlying138 h
  rw [show Tryz.prog.cellsOf 138 = 3 from by kernel_rfl] at hlen
  match cs, hlen with
  | [c0, c1, c2], _ =>
    have hl : ys.length = 3 := by assumption
    have hy : ∀ (j : Nat) {x : Option (DataW H × List MemPlace)}, x = ys[j]? → j < ys.length → x = some (ys[j]?.getD (.nil, [])) := by
      intro j x hx hj
      rw [hx, List.getElem?_eq_getElem hj]
      rfl
    have g0 : DataW.trod enc Tryz.prog W 0 (fun _ => true) true n' 3 [c0] = _ := hy 0 (hf 0 _ rfl) (by omega)
    have g1 : DataW.trod enc Tryz.prog W 0 (fun _ => true) true n' 3 [c1] = _ := hy 1 (hf 1 _ rfl) (by omega)
    have g2 : DataW.trod enc Tryz.prog W 0 (fun _ => true) true n' 136 [c2] = _ := hy 2 (hf 2 _ rfl) (by omega)
    obtain ⟨k0, e0, _, o0⟩ := DataW.trod_int Tryz.underlying3 g0
    obtain ⟨k1, e1, _, o1⟩ := DataW.trod_int Tryz.underlying3 g1
    obtain ⟨a, m, k, rfl⟩ := open_any Tryz.underlying136 g2
    simp only [List.cons.injEq, and_true] at e0 e1
    subst e0 e1
    exact ⟨⟨k0, k1, a, m, k⟩, rfl, trivial⟩
set_option maxRecDepth 100000 in
theorem open_rul {n : Nat} {cs : List Value} {y : DataW H × List MemPlace} (h : DataW.trod enc Tryz.prog W 0 (fun _ => true) true n 140 cs = some y) :
    ∃ q : Rul, cs = cRul q ∧ True := by
  obtain ⟨ys, n', _, _, hlen, hys, hf⟩ := DataW.trod_struct Tryz.underlying140 h
  rw [show Tryz.prog.cellsOf 140 = 4 from by kernel_rfl] at hlen
  match cs, hlen with
  | [c0, c1, c2, c3], _ =>
    have hl : ys.length = 2 := by assumption
    have hy : ∀ (j : Nat) {x : Option (DataW H × List MemPlace)}, x = ys[j]? → j < ys.length → x = some (ys[j]?.getD (.nil, [])) := by
      intro j x hx hj
      rw [hx, List.getElem?_eq_getElem hj]
      rfl
    have g0 : DataW.trod enc Tryz.prog W 0 (fun _ => true) true n' 3 [c0] = _ := hy 0 (hf 0 _ rfl) (by omega)
    have g1 : DataW.trod enc Tryz.prog W 0 (fun _ => true) true n' 138 [c1, c2, c3] = _ := hy 1 (hf 1 _ rfl) (by omega)
    obtain ⟨k0, e0, _, o0⟩ := DataW.trod_int Tryz.underlying3 g0
    obtain ⟨⟨x1, x2, x3, x4, x5⟩, e1, _⟩ := open_term g1
    simp only [List.cons.injEq, and_true] at e0 e1
    obtain ⟨rfl, rfl, rfl⟩ := e1
    subst e0
    exact ⟨⟨k0, x1, x2, x3, x4, x5⟩, rfl, trivial⟩
/-- the lists of a city -/
def CtyF (W : World) (c : Cty) : Prop := InC W c ∧ Sz c.rest.length ∧ Sz c.feasts.length ∧ Sz c.shut.length ∧ ∀ n ∈ c.feasts, I64 n
def OdrF (W : World) (o : Odr) : Prop := InO W o ∧ Sz o.ch.length ∧ Sz o.ru.length
set_option maxRecDepth 100000 in
theorem open_cty {n : Nat} {cs : List Value} {y : DataW H × List MemPlace} (h : DataW.trod enc Tryz.prog W 0 (fun _ => true) true n 75 cs = some y) :
    ∃ q : Cty, cs = cCty q ∧ CtyF W q := by
  obtain ⟨ys, n', _, _, hlen, hys, hf⟩ := DataW.trod_struct Tryz.underlying75 h
  rw [show Tryz.prog.cellsOf 75 = 6 from by kernel_rfl] at hlen
  match cs, hlen with
  | [c0, c1, c2, c3, c4, c5], _ =>
    have hl : ys.length = 6 := by assumption
    have hy : ∀ (j : Nat) {x : Option (DataW H × List MemPlace)}, x = ys[j]? → j < ys.length → x = some (ys[j]?.getD (.nil, [])) := by
      intro j x hx hj
      rw [hx, List.getElem?_eq_getElem hj]
      rfl
    have g0 : DataW.trod enc Tryz.prog W 0 (fun _ => true) true n' 9 [c0] = _ := hy 0 (hf 0 _ rfl) (by omega)
    have g1 : DataW.trod enc Tryz.prog W 0 (fun _ => true) true n' 3 [c1] = _ := hy 1 (hf 1 _ rfl) (by omega)
    have g2 : DataW.trod enc Tryz.prog W 0 (fun _ => true) true n' 3 [c2] = _ := hy 2 (hf 2 _ rfl) (by omega)
    have g3 : DataW.trod enc Tryz.prog W 0 (fun _ => true) true n' 73 [c3] = _ := hy 3 (hf 3 _ rfl) (by omega)
    have g4 : DataW.trod enc Tryz.prog W 0 (fun _ => true) true n' 73 [c4] = _ := hy 4 (hf 4 _ rfl) (by omega)
    have g5 : DataW.trod enc Tryz.prog W 0 (fun _ => true) true n' 73 [c5] = _ := hy 5 (hf 5 _ rfl) (by omega)
    obtain ⟨k0, e0, _, _⟩ := DataW.trod_string Tryz.underlying9 g0
    obtain ⟨k1, e1, _, o1⟩ := DataW.trod_int Tryz.underlying3 g1
    obtain ⟨k2, e2, _, o2⟩ := DataW.trod_int Tryz.underlying3 g2
    obtain ⟨l3, p3, q3, rfl, i3, z3, w3⟩ := open_ints' g3
    obtain ⟨l4, p4, q4, rfl, i4, z4, w4⟩ := open_ints' g4
    obtain ⟨l5, p5, q5, rfl, i5, z5, w5⟩ := open_ints' g5
    simp only [List.cons.injEq, and_true] at e0 e1 e2
    subst e0 e1 e2
    exact ⟨⟨k0, k1, k2, p3, p4, p5, q3, q4, q5, l3, l4, l5⟩, rfl, ⟨i3, i4, i5⟩, z3, z4, z5, w4⟩
set_option maxRecDepth 100000 in
theorem open_odr {n : Nat} {cs : List Value} {y : DataW H × List MemPlace} (h : DataW.trod enc Tryz.prog W 0 (fun _ => true) true n 85 cs = some y) :
    ∃ q : Odr, cs = cOdr q ∧ OdrF W q := by
  obtain ⟨ys, n', _, _, hlen, hys, hf⟩ := DataW.trod_struct Tryz.underlying85 h
  rw [show Tryz.prog.cellsOf 85 = 4 from by kernel_rfl] at hlen
  match cs, hlen with
  | [c0, c1, c2, c3], _ =>
    have hl : ys.length = 4 := by assumption
    have hy : ∀ (j : Nat) {x : Option (DataW H × List MemPlace)}, x = ys[j]? → j < ys.length → x = some (ys[j]?.getD (.nil, [])) := by
      intro j x hx hj
      rw [hx, List.getElem?_eq_getElem hj]
      rfl
    have g0 : DataW.trod enc Tryz.prog W 0 (fun _ => true) true n' 9 [c0] = _ := hy 0 (hf 0 _ rfl) (by omega)
    have g1 : DataW.trod enc Tryz.prog W 0 (fun _ => true) true n' 4 [c1] = _ := hy 1 (hf 1 _ rfl) (by omega)
    have g2 : DataW.trod enc Tryz.prog W 0 (fun _ => true) true n' 82 [c2] = _ := hy 2 (hf 2 _ rfl) (by omega)
    have g3 : DataW.trod enc Tryz.prog W 0 (fun _ => true) true n' 83 [c3] = _ := hy 3 (hf 3 _ rfl) (by omega)
    obtain ⟨k0, e0, _, _⟩ := DataW.trod_string Tryz.underlying9 g0
    obtain ⟨k1, e1, _⟩ := DataW.trod_bool Tryz.underlying4 g1
    obtain ⟨l2, p2, q2, rfl, i2, z2, w2⟩ := open_L (c := cChc) (k := 3) (Q := fun _ => True) Tryz.underlying82 (by kernel_rfl) (by decide) (fun _ => rfl) open_chc g2
    obtain ⟨l3, p3, q3, rfl, i3, z3, w3⟩ := open_L (c := cRul) (k := 4) (Q := fun _ => True) Tryz.underlying83 (by kernel_rfl) (by decide) (fun _ => rfl) open_rul g3
    simp only [List.cons.injEq, and_true] at e0 e1
    subst e0 e1
    exact ⟨⟨k0, k1, p2, p3, q2, q3, l2, l3⟩, rfl, ⟨i2, i3⟩, z2, z3⟩
set_option maxRecDepth 100000 in
theorem open_realm (hv : Value.okWide Tryz.prog W r b0 31 v) (h : DataW.Trod enc Tryz.prog W 0 (fun _ => true) true 31 v d p) :
    ∃ (a0 a1 a2 a3 a4 a5 a6 a7 : Option Addr) (c0 c1 c2 c3 c4 c5 c6 c7 : Nat) (R : Rlm), v = .agg #[.slice a0 R.cur.length c0, .slice a1 R.cities.length c1, .slice a2 R.groups.length c2, .slice a3 R.firms.length c3, .slice a4 R.orders.length c4, .slice a5 R.usances.length c5, .slice a6 R.rates.length c6, .slice a7 R.halts.length c7] ∧
      RAt W (.slice a0 R.cur.length c0) (.slice a1 R.cities.length c1) (.slice a2 R.groups.length c2) (.slice a3 R.firms.length c3) (.slice a4 R.orders.length c4) (.slice a5 R.usances.length c5) (.slice a6 R.rates.length c6) (.slice a7 R.halts.length c7) R ∧ FitW R := by
  obtain ⟨cs, rfl, hsz⟩ := okWide_struct Tryz.underlying31 hv
  obtain ⟨fuel, hf⟩ := h
  obtain ⟨ys, n', _, _, _, hlen, hg⟩ := DataW.trod_struct Tryz.underlying31 hf
  rw [show Tryz.prog.cellsOf 31 = 8 from by kernel_rfl] at hsz
  obtain ⟨l⟩ := cs
  match l, hsz with
  | [x0, x1, x2, x3, x4, x5, x6, x7], _ =>
    have hl : ys.length = 8 := hlen
    have hy : ∀ (j : Nat) {x : Option (DataW H × List MemPlace)}, x = ys[j]? → j < ys.length → x = some (ys[j]?.getD (.nil, [])) := by
      intro j x hx hj
      rw [hx, List.getElem?_eq_getElem hj]
      rfl
    have h0 := hg 0 _ rfl
    have h1 := hg 1 _ rfl
    have h2 := hg 2 _ rfl
    have h3 := hg 3 _ rfl
    have h4 := hg 4 _ rfl
    have h5 := hg 5 _ rfl
    have h6 := hg 6 _ rfl
    have h7 := hg 7 _ rfl
    simp only [Value.cells] at h0 h1 h2 h3 h4 h5 h6 h7
    have g0 : DataW.trod enc Tryz.prog W 0 (fun _ => true) true n' 22 [x0] = _ := hy 0 h0 (by omega)
    have g1 : DataW.trod enc Tryz.prog W 0 (fun _ => true) true n' 23 [x1] = _ := hy 1 h1 (by omega)
    have g2 : DataW.trod enc Tryz.prog W 0 (fun _ => true) true n' 24 [x2] = _ := hy 2 h2 (by omega)
    have g3 : DataW.trod enc Tryz.prog W 0 (fun _ => true) true n' 25 [x3] = _ := hy 3 h3 (by omega)
    have g4 : DataW.trod enc Tryz.prog W 0 (fun _ => true) true n' 26 [x4] = _ := hy 4 h4 (by omega)
    have g5 : DataW.trod enc Tryz.prog W 0 (fun _ => true) true n' 27 [x5] = _ := hy 5 h5 (by omega)
    have g6 : DataW.trod enc Tryz.prog W 0 (fun _ => true) true n' 28 [x6] = _ := hy 6 h6 (by omega)
    have g7 : DataW.trod enc Tryz.prog W 0 (fun _ => true) true n' 29 [x7] = _ := hy 7 h7 (by omega)
    obtain ⟨l0, p0, q0, rfl, i0, z0, w0⟩ := open_L (c := cStr) (k := 1) (Q := fun _ => True) Tryz.underlying22 (by kernel_rfl) (by decide) (fun _ => rfl) open_str g0
    obtain ⟨l1, p1, q1, rfl, i1, z1, w1⟩ := open_L (c := cCty) (k := 6) (Q := CtyF W) Tryz.underlying23 (by kernel_rfl) (by decide) (fun _ => rfl) open_cty g1
    obtain ⟨l2, p2, q2, rfl, i2, z2, w2⟩ := open_L (c := cInt) (k := 1) (Q := fun _ => True) Tryz.underlying24 (by kernel_rfl) (by decide) (fun _ => rfl) open_grp g2
    obtain ⟨l3, p3, q3, rfl, i3, z3, w3⟩ := open_L (c := cFrm) (k := 3) (Q := fun _ => True) Tryz.underlying25 (by kernel_rfl) (by decide) (fun _ => rfl) open_frm g3
    obtain ⟨l4, p4, q4, rfl, i4, z4, w4⟩ := open_L (c := cOdr) (k := 4) (Q := OdrF W) Tryz.underlying26 (by kernel_rfl) (by decide) (fun _ => rfl) open_odr g4
    obtain ⟨l5, p5, q5, rfl, i5, z5, w5⟩ := open_L (c := cUsn) (k := 3) (Q := fun _ => True) Tryz.underlying27 (by kernel_rfl) (by decide) (fun _ => rfl) open_usn g5
    obtain ⟨l6, p6, q6, rfl, i6, z6, w6⟩ := open_L (c := cRat) (k := 5) (Q := fun _ => True) Tryz.underlying28 (by kernel_rfl) (by decide) (fun _ => rfl) open_rte g6
    obtain ⟨l7, p7, q7, rfl, i7, z7, w7⟩ := open_L (c := cHlt) (k := 3) (Q := fun _ => True) Tryz.underlying29 (by kernel_rfl) (by decide) (fun _ => rfl) open_hlt g7
    exact ⟨p0, p1, p2, p3, p4, p5, p6, p7, q0, q1, q2, q3, q4, q5, q6, q7, ⟨l0, l1, l2, l3, l4, l5, l6, l7⟩, rfl, ⟨i0, i1, i2, i3, i4, i5, i6, i7, fun c hc => (w1 c hc).1, fun o ho => (w4 o ho).1⟩,
      ⟨z0, z1, z2, z3, z4, z5, z6, z7, fun c hc => (w1 c hc).2, fun o ho => (w4 o ho).2⟩⟩
end

end Go.Proofs.YtcjakgpmompaiaaGreatDoor
