/-
  From a contract to a tied card: what the listed variables hold, a world for the witness, bills among the arguments.
-/
import Derived.Test.YtcjakgpmompaiaaGreatDoorLawKit
import Derived.Test.YtcjakgpmompaiaaGreatDoorRdG
import Derived.Test.YtcjakgpmompaiaaGreatDoorCards
import Derived.Test.YtcjakgpmompaiaaGreatDoorTie
import Derived.Stop.LaidErr
import Derived.Lib.LaidTab
import Derived.Deep.DeepHandedRow
import Derived.Shelf.Vars
namespace Go.Proofs.YtcjakgpmompaiaaGreatDoor
open Go.ChangeShapes Go.WideShapes Go.ChangeAt Go.RowKit Rl Wd

theorem u8_of {n : Int} (h : (Lit.int .u8 n).wf = true) : 0 ≤ n ∧ n ≤ 255 := by
  simp [Lit.wf, IntKind.min, IntKind.max, IntKind.signed, IntKind.bits] at h
  exact h
theorem gPowType : (Tryz.prog.globals[2]?).map (·.type) = some 214 := by kernel_rfl
theorem cellsPow : Tryz.prog.cellsOf 214 = 20 := by kernel_rfl
theorem cellsU64 : Tryz.prog.cellsOf 195 = 1 := by kernel_rfl
theorem gBefType : (Tryz.prog.globals[0]?).map (·.type) = some 193 := by kernel_rfl
theorem cellsBef : Tryz.prog.cellsOf 193 = 12 := by kernel_rfl
theorem cellsInt1 : Tryz.prog.cellsOf 3 = 1 := by kernel_rfl
theorem gBef2 : Tryz.prog.globalNamed "allonge/calendar.before" = some 0 := by kernel_rfl
theorem gES : Tryz.prog.globalNamed "strconv.ErrSyntax" = some 3 := by kernel_rfl
theorem gESType : (Tryz.prog.globals[3]?).map (·.type) = some 169 := by kernel_rfl
theorem gER : Tryz.prog.globalNamed "strconv.ErrRange" = some 4 := by kernel_rfl
theorem gERType : (Tryz.prog.globals[4]?).map (·.type) = some 169 := by kernel_rfl
theorem cellsES : Tryz.prog.cellsOf 229 = 1 := by kernel_rfl
theorem cellsS1 : Tryz.prog.cellsOf 9 = 1 := by kernel_rfl
theorem starES : "*" ++ "errors.errorString" = "*errors.errorString" := by decide
/-- the one row of that name -/
theorem rowES (u : TypeId) (h : Tryz.prog.typeName? 3 u = some "*errors.errorString") : u = 227 :=
  typeName_ptr_named (nm := "errors.errorString") (by rw [starES]; kernel_rfl) (by kernel_rfl) (by decide) u (by rw [starES]; exact h)
abbrev laidL : List (String × DataW Unit) := [("math/bits.deBruijn32tab", Rows.laid_math_bits_deBruijn32tab), ("math/bits.deBruijn64tab", Rows.laid_math_bits_deBruijn64tab), ("internal/strconv.uint64pow10", Rows.laid_internal_strconv_uint64pow10), ("allonge/calendar.before", Rows.laid_allonge_calendar_before), ("strconv.ErrRange", Rows.laid_strconv_ErrRange), ("strconv.ErrSyntax", Rows.laid_strconv_ErrSyntax)]
/-- WHAT THE ROWS' LIST GIVES, and the world's shape. -/
theorem ev_laid {W : World} (h : laidMetH Tryz.prog laidL W) (hs : W.ShapedOpen Tryz.prog) : Ev W := by
  have h0 : laidMet Tryz.prog laidL W := h
  have h2 : laidMet Tryz.prog [("internal/strconv.uint64pow10", Lib.tabData .u64 Lib.pow10Tab), ("allonge/calendar.before", Rows.laid_allonge_calendar_before), ("strconv.ErrRange", Rows.laid_strconv_ErrRange), ("strconv.ErrSyntax", Rows.laid_strconv_ErrSyntax)] W := h0.tail.tail
  have h3 : laidMet Tryz.prog [("allonge/calendar.before", Lib.tabData .i64 Ca.Cal.bef), ("strconv.ErrRange", Rows.laid_strconv_ErrRange), ("strconv.ErrSyntax", Rows.laid_strconv_ErrSyntax)] W := h2.tail
  refine ⟨?_, ?_, ?_, ?_, ?_⟩
  · have h1 : Lib.TabIs Tryz.prog W "allonge/calendar.before" .i64 Ca.Cal.bef := Lib.tabIs_of_head gBef2 gBefType Tryz.underlying193 Tryz.underlying3 cellsInt1 cellsBef h3
    have h4 : W.var? Tryz.prog "allonge/calendar.before" = some Ca.bfC := h1
    unfold World.var? at h4
    rw [gBef2] at h4
    simp only [Option.bind_some] at h4
    split at h4
    · rename_i cs t fr hg
      obtain rfl := Option.some.inj h4
      exact ⟨t, fr, hg⟩
    · cases h4
  · exact Tb.of (Lib.tabIs_of_head gPow gPowType Tryz.underlying214 Tryz.underlying195 cellsU64 cellsPow h2)
  · exact cell_of_shapedOpen_int (g := 1) (zero := #[.int .i64 0]) (t := 3) hs (of_decide_eq_true (by kernel_rfl)) (by kernel_rfl) rfl (by kernel_rfl) (by kernel_rfl) Tryz.underlying3
  · obtain ⟨a, s, hv, -, -, -⟩ := laid_sentinel h3.tail.tail gES gESType Tryz.underlying169 rowES Tryz.underlying227 Tryz.underlying229 rfl rfl Tryz.underlying9 cellsES cellsS1
    exact ⟨_, (by have h0 := World.var?_cell gES hv 0; simpa using h0), .inr ⟨_, _, rfl⟩⟩
  · obtain ⟨a, s, hv, -, -, -⟩ := laid_sentinel h3.tail gER gERType Tryz.underlying169 rowES Tryz.underlying227 Tryz.underlying229 rfl rfl Tryz.underlying9 cellsES cellsS1
    exact ⟨_, (by have h0 := World.var?_cell gER hv 0; simpa using h0), .inr ⟨_, _, rfl⟩⟩
def litV : DataW Unit → Value
  | .lit (.int k n) => .int k n
  | _ => .bool false
def litCells : DataW Unit → Array Value
  | .agg l => (l.map litV).toArray
  | _ => #[]
def setTab (C : Array Value) : Obj → Obj
  | .cells _ t frozen => .cells C t frozen
  | o => o
abbrev synS : ByteArray := { data := #[105, 110, 118, 97, 108, 105, 100, 32, 115, 121, 110, 116, 97, 120] }
abbrev rngS : ByteArray := { data := #[118, 97, 108, 117, 101, 32, 111, 117, 116, 32, 111, 102, 32, 114, 97, 110, 103, 101] }
/-- so many blocks has the settled world -/
noncomputable def low : Nat := (World.holding Tryz.prog default ⟨#[], #[], []⟩).heap.size
/-- A WORLD FOR THE WITNESS: the settled one, the variables as their initialisers lay them. -/
noncomputable def laidWorld (os : Os) : World :=
  let w0 := World.holding Tryz.prog os ⟨#[.cells #[.string synS] 229, .cells #[.string rngS] 229], #[], []⟩
  { w0 with heap := (((((w0.heap.modify 5 (setTab (litCells Rows.laid_math_bits_deBruijn32tab))).modify 6 (setTab (litCells Rows.laid_math_bits_deBruijn64tab))).modify 2 (setTab (litCells Rows.laid_internal_strconv_uint64pow10))).modify 0 (setTab (litCells Rows.laid_allonge_calendar_before))).modify 3 (setTab #[.iface 227 (.pointer (some ⟨low, 0, none⟩))])).modify 4 (setTab #[.iface 227 (.pointer (some ⟨low + 1, 0, none⟩))]) }
theorem laid_met (os : Os) (args : Array Value) : laidMet Tryz.prog laidL ((laidWorld os).forCall (fun _ _ => 0) ⟨#[], args, []⟩).memory :=
  laidMet_of_run' 8 (by kernel_rfl) (by kernel_rfl)

section
variable {H : Type} {enc : TypeId × Value → H} {W : World} {v : Value} {d : DataW H} {p : List MemPlace} {r : Go.Reach} {b0 : Nat}
set_option maxRecDepth 100000 in
theorem open_ten {n : Nat} {cs : List Value} {y : DataW H × List MemPlace} (h : DataW.trod enc Tryz.prog W 0 (fun _ => true) true n 33 cs = some y) :
    ∃ k n u : Int, cs = [.int .i64 k, .int .i64 n, .int .i64 u] := by
  obtain ⟨ys, n', _, _, hlen, hys, hf⟩ := DataW.trod_struct Tryz.underlying33 h
  rw [show Tryz.prog.cellsOf 33 = 3 from by kernel_rfl] at hlen
  match cs, hlen with
  | [c0, c1, c2], _ =>
    have hl : ys.length = 3 := by assumption
    have hy : ∀ (j : Nat) {x : Option (DataW H × List MemPlace)}, x = ys[j]? → j < ys.length → x = some (ys[j]?.getD (.nil, [])) := by
      intro j x hx hj
      rw [hx, List.getElem?_eq_getElem hj]
      rfl
    have g0 : DataW.trod enc Tryz.prog W 0 (fun _ => true) true n' 3 [c0] = _ := hy 0 (hf 0 _ rfl) (by omega)
    have g1 : DataW.trod enc Tryz.prog W 0 (fun _ => true) true n' 3 [c1] = _ := hy 1 (hf 1 _ rfl) (by omega)
    have g2 : DataW.trod enc Tryz.prog W 0 (fun _ => true) true n' 3 [c2] = _ := hy 2 (hf 2 _ rfl) (by omega)
    obtain ⟨k0, e0, _, o0⟩ := DataW.trod_int Tryz.underlying3 g0
    obtain ⟨k1, e1, _, o1⟩ := DataW.trod_int Tryz.underlying3 g1
    obtain ⟨k2, e2, _, o2⟩ := DataW.trod_int Tryz.underlying3 g2
    simp only [List.cons.injEq, and_true] at e0 e1 e2
    subst e0 e1 e2
    exact ⟨k0, k1, k2, rfl⟩
set_option maxRecDepth 100000 in
theorem open_blc {n : Nat} {cs : List Value} {y : DataW H × List MemPlace} (h : DataW.trod enc Tryz.prog W 0 (fun _ => true) true n 35 cs = some y) :
    ∃ b : Bl, cs = cB b := by
  obtain ⟨ys, n', _, _, hlen, hys, hf⟩ := DataW.trod_struct Tryz.underlying35 h
  rw [show Tryz.prog.cellsOf 35 = 15 from by kernel_rfl] at hlen
  match cs, hlen with
  | [c0, c1, c2, c3, c4, c5, c6, c7, c8, c9, c10, c11, c12, c13, c14], _ =>
    have hl : ys.length = 13 := by assumption
    have hy : ∀ (j : Nat) {x : Option (DataW H × List MemPlace)}, x = ys[j]? → j < ys.length → x = some (ys[j]?.getD (.nil, [])) := by
      intro j x hx hj
      rw [hx, List.getElem?_eq_getElem hj]
      rfl
    have g0 : DataW.trod enc Tryz.prog W 0 (fun _ => true) true n' 3 [c0] = _ := hy 0 (hf 0 _ rfl) (by omega)
    have g1 : DataW.trod enc Tryz.prog W 0 (fun _ => true) true n' 3 [c1] = _ := hy 1 (hf 1 _ rfl) (by omega)
    have g2 : DataW.trod enc Tryz.prog W 0 (fun _ => true) true n' 3 [c2] = _ := hy 2 (hf 2 _ rfl) (by omega)
    have g3 : DataW.trod enc Tryz.prog W 0 (fun _ => true) true n' 3 [c3] = _ := hy 3 (hf 3 _ rfl) (by omega)
    have g4 : DataW.trod enc Tryz.prog W 0 (fun _ => true) true n' 3 [c4] = _ := hy 4 (hf 4 _ rfl) (by omega)
    have g5 : DataW.trod enc Tryz.prog W 0 (fun _ => true) true n' 33 [c5, c6, c7] = _ := hy 5 (hf 5 _ rfl) (by omega)
    have g6 : DataW.trod enc Tryz.prog W 0 (fun _ => true) true n' 3 [c8] = _ := hy 6 (hf 6 _ rfl) (by omega)
    have g7 : DataW.trod enc Tryz.prog W 0 (fun _ => true) true n' 3 [c9] = _ := hy 7 (hf 7 _ rfl) (by omega)
    have g8 : DataW.trod enc Tryz.prog W 0 (fun _ => true) true n' 3 [c10] = _ := hy 8 (hf 8 _ rfl) (by omega)
    have g9 : DataW.trod enc Tryz.prog W 0 (fun _ => true) true n' 3 [c11] = _ := hy 9 (hf 9 _ rfl) (by omega)
    have g10 : DataW.trod enc Tryz.prog W 0 (fun _ => true) true n' 3 [c12] = _ := hy 10 (hf 10 _ rfl) (by omega)
    have g11 : DataW.trod enc Tryz.prog W 0 (fun _ => true) true n' 3 [c13] = _ := hy 11 (hf 11 _ rfl) (by omega)
    have g12 : DataW.trod enc Tryz.prog W 0 (fun _ => true) true n' 3 [c14] = _ := hy 12 (hf 12 _ rfl) (by omega)
    obtain ⟨k0, e0, _, o0⟩ := DataW.trod_int Tryz.underlying3 g0
    obtain ⟨k1, e1, _, o1⟩ := DataW.trod_int Tryz.underlying3 g1
    obtain ⟨k2, e2, _, o2⟩ := DataW.trod_int Tryz.underlying3 g2
    obtain ⟨k3, e3, _, o3⟩ := DataW.trod_int Tryz.underlying3 g3
    obtain ⟨k4, e4, _, o4⟩ := DataW.trod_int Tryz.underlying3 g4
    obtain ⟨k6, e6, _, o6⟩ := DataW.trod_int Tryz.underlying3 g6
    obtain ⟨k7, e7, _, o7⟩ := DataW.trod_int Tryz.underlying3 g7
    obtain ⟨k8, e8, _, o8⟩ := DataW.trod_int Tryz.underlying3 g8
    obtain ⟨k9, e9, _, o9⟩ := DataW.trod_int Tryz.underlying3 g9
    obtain ⟨k10, e10, _, o10⟩ := DataW.trod_int Tryz.underlying3 g10
    obtain ⟨k11, e11, _, o11⟩ := DataW.trod_int Tryz.underlying3 g11
    obtain ⟨k12, e12, _, o12⟩ := DataW.trod_int Tryz.underlying3 g12
    obtain ⟨t5, t6, t7, e5⟩ := open_ten g5
    simp only [List.cons.injEq, and_true] at e0 e1 e2 e3 e4 e6 e7 e8 e9 e10 e11 e12 e5
    obtain ⟨rfl, rfl, rfl⟩ := e5
    subst e0 e1 e2 e3 e4 e6 e7 e8 e9 e10 e11 e12
    exact ⟨⟨k0, k1, k2, k3, k4, t5, t6, t7, k6, k7, k8, k9, k10, k11, k12⟩, rfl⟩
set_option maxRecDepth 100000 in
/-- a bill among the arguments -/
theorem open_bill (hv : Value.okWide Tryz.prog W r b0 35 v) (h : DataW.Trod enc Tryz.prog W 0 (fun _ => true) true 35 v d p) : ∃ b : Bl, v = vB b := by
  obtain ⟨cs, rfl, hsz⟩ := okWide_struct Tryz.underlying35 hv
  obtain ⟨fuel, hf⟩ := h
  obtain ⟨b, hb⟩ := open_blc hf
  refine ⟨b, ?_⟩
  have e : cs.toList = cB b := hb
  show Value.agg cs = .agg (cB b).toArray
  rw [← e]
end
end Go.Proofs.YtcjakgpmompaiaaGreatDoor
