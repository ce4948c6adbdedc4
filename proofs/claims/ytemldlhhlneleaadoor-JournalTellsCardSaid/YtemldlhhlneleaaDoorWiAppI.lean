/-
  wire.appendInt: onto a slice of bytes that the call owns it appends the encoding of an int.
-/
import Derived.Test.YtemldlhhlneleaaDoorWiKit
import Derived.Deep.DeepCutAuto
namespace Go.Proofs.YtemldlhhlneleaaDoor.Wi
open Go.RowKit


/-- the sign's bytes -/
def sgn (n : Int) : List UInt8 := if n < 0 then [45] else []

def Aft (B m : Nat) (xs : List Value) (n : Int) (w : World) (b s : Value) (wx : World) : Prop :=
  s = .int .u64 (n.natAbs : Int) ∧ wx.ownsRow B 5 1 b (m + (sgn n).length) (xs ++ bc (sgn n)) ∧ Below B w wx

theorem sgn_neg {n : Int} (h : n < 0) : sgn n = [45] := if_pos h
theorem sgn_pos {n : Int} (h : ¬ n < 0) : sgn n = [] := if_neg h

theorem aft_neg {B m : Nat} {xs : List Value} {n : Int} {w w1 : World} {v' s : Value} (h : n < 0) (hs : s = .int .u64 (n.natAbs : Int)) (hown : w1.ownsRow B 5 1 v' (m + 1) (xs ++ [.int .u8 45])) (hb : Below B w w1) : Aft B m xs n w v' s w1 := by
  unfold Aft
  rw [sgn_neg h]
  exact ⟨hs, hown, hb⟩
theorem aft_pos {B m : Nat} {xs : List Value} {n : Int} {w : World} {v s : Value} (h : ¬ n < 0) (hs : s = .int .u64 (n.natAbs : Int)) (hown : w.ownsRow B 5 1 v m xs) : Aft B m xs n w v s w := by
  unfold Aft
  rw [sgn_pos h]
  exact ⟨hs, by simpa [bc] using hown, Below.refl _ _⟩

/-- the digits' array at block b: the cells from k on hold t -/
def Dig (b k : Nat) (t : List UInt8) (w : World) : Prop := ∃ C : Array Value, w.heap[b]? = some (.cells C 111 (0, 0)) ∧ C.size = 20 ∧ C.toList.drop k = bc t

theorem Dig.cell {b k : Nat} {t : List UInt8} {w : World} (h : Dig b k t w) (j : Nat) (hj : j < 20) : ∃ v, w.cell? ⟨b, j, none⟩ = some v := by
  obtain ⟨C, h1, h2, h3⟩ := h
  refine ⟨C[j], ?_⟩
  rw [cell_of_row w b j C 111 (0, 0) h1]
  simp
theorem Dig.free {b k : Nat} {t : List UInt8} {w : World} (h : Dig b k t w) (j : Nat) : w.frozen? ⟨b, j, none⟩ = false := by
  obtain ⟨C, h1, h2, h3⟩ := h
  simp [World.frozen?, h1]
theorem Dig.lt {b k : Nat} {t : List UInt8} {w : World} (h : Dig b k t w) : b < w.heap.size := by
  obtain ⟨C, h1, h2, h3⟩ := h
  exact (Array.getElem?_eq_some_iff.1 h1).1
theorem Dig.store {b k : Nat} {t : List UInt8} {w : World} (h : Dig b (k + 1) t w) (hk : k < 20) (c : UInt8) : Dig b k (c :: t) (w.setCell ⟨b, k, none⟩ (.int .u8 c.toNat)) := by
  obtain ⟨C, h1, h2, h3⟩ := h
  refine ⟨C.set k (.int .u8 c.toNat) (by omega), ?_, by simp [h2], ?_⟩
  · have hb : b < w.heap.size := (Array.getElem?_eq_some_iff.1 h1).1
    simp [World.setCell, Array.getElem?_modify, h1]
    rw [Array.setIfInBounds, dif_pos (by omega)]
  · have e : (C.set k (Value.int .u8 c.toNat) (by omega)).toList.drop k = Value.int .u8 c.toNat :: C.toList.drop (k + 1) := by
      rw [Array.toList_set, List.drop_set, if_neg (by omega), Nat.sub_self, List.drop_eq_getElem_cons (by simp; omega)]
      simp
    rw [e, h3]
    rfl
theorem Dig.start (w : World) (n : Nat) (h : n = w.heap.size) : Dig n 20 [] (w.alloc (.cells #[.int .u8 0, .int .u8 0, .int .u8 0, .int .u8 0, .int .u8 0, .int .u8 0, .int .u8 0, .int .u8 0, .int .u8 0, .int .u8 0, .int .u8 0, .int .u8 0, .int .u8 0, .int .u8 0, .int .u8 0, .int .u8 0, .int .u8 0, .int .u8 0, .int .u8 0, .int .u8 0] 111)) := by
  subst h
  exact ⟨_, heap_alloc_new w _, rfl, rfl⟩
theorem Dig.cells {b k : Nat} {t : List UInt8} {w : World} (h : Dig b k t w) : ∀ j u, (bc t)[j]? = some u → w.cell? ((⟨b, k, none⟩ : Addr).add j) = some u := by
  obtain ⟨C, h1, h2, h3⟩ := h
  intro j u hu
  have hadd : (⟨b, k, none⟩ : Addr).add j = ⟨b, k + j, none⟩ := by unfold Addr.add; split <;> simp_all
  rw [hadd, cell_of_row w b (k + j) C 111 (0, 0) h1]
  rw [← h3, List.getElem?_drop] at hu
  simpa using hu

set_option maxRecDepth 100000 in
theorem slice_dig (u : World) (b k : Nat) (hk : k < 20) : (Instr.sliceAt 111 (.pointer (some ⟨b, 0, none⟩)) (some (.int .i64 (k : Int))) none none).run Tryd.prog u = .ok (.slice (some ⟨b, k, none⟩) (20 - k) (20 - k)) u := by
  have ha : Tryd.prog.arrayLen 111 = 20 := by kernel_rfl
  have hu : Tryd.prog.underlying 111 = some (.array (Tryd.prog.arrayLen 111) (Tryd.prog.elem 111)) := by kernel_rfl
  have hs : (sizeOf (Tryd.prog.elem 111)).run Tryd.prog u = .ok 1 u := by kernel_rfl
  rw [run_sliceAt_array_l u 111 ⟨b, 0, none⟩ hu .i64 k (by omega) (by rw [ha]; omega), hs, ha]
  simp only [Result.andThen_ok, slicedAt, Int.toNat_natCast]
  rw [if_neg (by omega)]
  congr 3
  simp [Addr.add]
  omega

/-- what the loop keeps -/
def Lo (n : Int) (w0 : World) (s5 s7 : Value) (wr : World) : Prop := ∃ (k q : Nat) (t : List UInt8),
  k + t.length = 20 ∧ 1 ≤ k ∧ q < 10 ^ k ∧ q ≤ 9223372036854775808 ∧ s5 = .int .u64 q ∧ s7 = .int .i64 k ∧ Dig w0.heap.size k t wr ∧ Below w0.heap.size w0 wr ∧ Wm.digF 20 n.natAbs = Wm.digF k q ++ t

theorem lo_start (n : Int) (w0 wr : World) (h : n.natAbs ≤ 9223372036854775808) (hd : Dig w0.heap.size 20 [] wr) (hb : Below w0.heap.size w0 wr) : Lo n w0 (.int .u64 (n.natAbs : Int)) (.int .i64 20) wr :=
  ⟨20, n.natAbs, [], rfl, by omega, by omega, by omega, rfl, rfl, hd, hb, by simp⟩

theorem byte_of (q : Nat) : ((48 : Int) + (q : Int) % 10) = ((UInt8.ofNat (48 + q % 10)).toNat : Int) := by
  rw [Wm.toNat_dig (by omega)]; omega

theorem lo_step (n : Int) (w0 wr : World) (k q : Nat) (t : List UInt8) (hk : k + 1 + t.length = 20) (hq : q < 10 ^ (k + 1)) (hq9 : 9 < q) (hq2 : q ≤ 9223372036854775808)
    (hd : Dig w0.heap.size (k + 1) t wr) (hb : Below w0.heap.size w0 wr) (he : Wm.digF 20 n.natAbs = Wm.digF (k + 1) q ++ t) :
    Lo n w0 (.int .u64 ((q : Int) / 10)) (.int .i64 (k : Int)) (wr.setCell ⟨w0.heap.size, k, none⟩ (.int .u8 (48 + (q : Int) % 10))) := by
  have hk1 : 1 ≤ k := by
    cases k with
    | zero => simp at hq; omega
    | succ k => omega
  refine ⟨k, q / 10, UInt8.ofNat (48 + q % 10) :: t, by simp; omega, hk1, by rw [Nat.pow_succ] at hq; omega, by omega, rfl, rfl, ?_, hb.setCell (Nat.le_refl _) _, ?_⟩
  · rw [byte_of]
    exact hd.store (by omega) _
  · rw [he, Wm.digF_step _ _ (by omega)]
    simp

theorem wrap_neg {n : Int} (h : n < 0) (h1 : -9223372036854775808 ≤ n) : IntKind.u64.wrap (-IntKind.u64.wrap n) = (n.natAbs : Int) := by
  simp only [IntKind.wrap, IntKind.bits, IntKind.signed]
  simp
  omega
theorem wrap_pos {n : Int} (h : ¬ n < 0) (h2 : n ≤ 9223372036854775807) : IntKind.u64.wrap n = (n.natAbs : Int) := by
  simp only [IntKind.wrap, IntKind.bits, IntKind.signed]
  simp
  omega

theorem encI_of (n : Int) (k q : Nat) (t : List UInt8) (hq : q < 10) (he : Wm.digF 20 n.natAbs = Wm.digF (k + 1) q ++ t) : Wm.encI n = sgn n ++ (UInt8.ofNat (48 + q % 10) :: t) ++ [59] := by
  unfold Wm.encI sgn
  rw [he, Wm.digF_last _ _ hq, show q % 10 = q from by omega]
  simp

set_option maxHeartbeats 800000 in
set_option maxRecDepth 100000 in
theorem appendInt_x (B : Nat) (v : Value) (m : Nat) (xs : List Value) (n : Int) (w : World) (hB : B ≤ w.heap.size) (hown : w.ownsRow B 5 1 v m xs) (hn1 : -9223372036854775808 ≤ n) (hn2 : n ≤ 9223372036854775807) (hm : m ≤ 1099511627776) :
    Calls Tryd.prog 72 #[v, .int .i64 n] w fun e w' => ∃ v', e = .returned v' ∧ w'.ownsRow B 5 1 v' (m + (Wm.encI n).length) (xs ++ bc (Wm.encI n)) ∧ Below B w w' := by
  obtain ⟨i0, hi, hz0, hz1, hz2⟩ := info_parts info5
  go_enter Tryd.func72, Tryd.ntmps72
  go_upto_if 11 with (fail)
  go_cut [0, 5] (fun b s wx => Aft B m xs n w b s wx)
  case first =>
    by_cases h : n < 0
    · go_wp2_with (at_builtin; refine wpList_append_own _ rfl _ _ 71 rfl B 5 i0 (.int .u8 0) 1 1 Tryd.underlying71 hi hz0 hz1 hz2 rfl (by decide) _ _ _ rfl (hown.alloc _) ⟨w.heap.size, 0, none⟩ 1 1 [.int .u8 45] rfl rfl ?c1 ?c2 ?c3 ?c4 ?c5 ?_)
      case c1 => exact cell_one_new _ _ _
      case c2 => intro u hu; simp at hu; subst hu; rfl
      case c3 => unfold maxLen; omega
      case c4 => omega
      case c5 => simp; omega
      intro v' w1 hown' hgrow _
      go_wp2
      go_meet
      exact aft_neg h (by rw [wrap_neg h hn1]) hown' (((Below.refl _ _).alloc hB _).grown hgrow (by simp; omega) (fun k hk => (hown.lt k hk).1))
    · go_wp2
      go_meet
      exact aft_pos (by omega) (by rw [wrap_pos (by omega) hn2]) hown
  case rest =>
    obtain ⟨rfl, hown1, hb1⟩ := hcut
    go_wp2_with fail
    go_loopw [5, 7] (fun s5 s7 wr => Lo n wc s5 s7 wr) (fun _ s7 _ => (intOf s7).toNat)
    case atStart => exact lo_start n wc _ (by omega) (Dig.start _ _ rfl) ((Below.refl _ _).alloc (Nat.le_refl _) _)
    case round =>
      obtain ⟨k, q, t, hk, hk1, hq, hq2, rfl, rfl, hd, hb2, he⟩ := hrel
      have he' := Lib.hid he
      clear he
      have hk' := Lib.hid hk
      clear hk
      obtain ⟨k, rfl⟩ : ∃ k', k = k' + 1 := ⟨k - 1, by omega⟩
      have hk20 : k < 20 := by have := hk'.out; omega
      obtain ⟨vo, hc⟩ := hd.cell k hk20
      have hf := hd.free k
      by_cases h9 : 9 < q
      · go_wp2
        go_roundw
        case rel => exact lo_step n wc wr k q t hk'.out hq h9 hq2 hd hb2 he'.out
        case measure => simp [intOf]
      · have e48 := byte_of q
        have hmod : (q : Int) % 10 = q := by omega
        rw [hmod] at e48
        obtain ⟨c, hcc⟩ : ∃ c, c = UInt8.ofNat (48 + q % 10) := ⟨_, rfl⟩
        rw [← hcc] at e48
        have Hcc := Lib.hid hcc
        clear hcc
        have E48 := Lib.hid e48
        clear e48 hmod
        have hb3 : Below wc.heap.size wc (wr.setCell ⟨wc.heap.size, k, none⟩ (.int .u8 (48 + (q : Int)))) := hb2.setCell (Nat.le_refl _) _
        have hown3 := below_own hown1 hb3 (Nat.le_refl _)
        have hd3 : Dig wc.heap.size k (c :: t) (wr.setCell ⟨wc.heap.size, k, none⟩ (.int .u8 (48 + (q : Int)))) := by
          rw [E48.out]
          exact hd.store hk20 _
        have hlen : Hid (20 - k = (c :: t).length) := by show 20 - k = _; have := hk'.out; simp; omega
        have hsz : wc.heap.size ≤ (wr.setCell ⟨wc.heap.size, k, none⟩ (.int .u8 (48 + (q : Int)))).heap.size := hb3.size
        have hsl := fun u => slice_dig u wc.heap.size k hk20
        have hBc : B ≤ wc.heap.size := by have := hb1.size; omega
        go_wp2_with (at_builtin; refine wpList_append_own _ rfl (.tmp 36) (.tmp 38) 71 rfl B 5 i0 (.int .u8 0) 1 1 Tryd.underlying71 hi hz0 hz1 hz2 rfl (by decide) _ _ _ rfl hown3 ⟨wc.heap.size, k, none⟩ (20 - k) (20 - k) (bc (c :: t)) rfl ?d1 ?d2 ?d3 ?d4 ?d5 ?d6 ?_)
        case d1 => rw [hlen.out, bc_length]; simp
        case d2 => exact hd3.cells
        case d3 => exact bc_one _
        case d4 => unfold maxLen sgn; split <;> simp <;> omega
        case d5 => unfold sgn; split <;> simp <;> omega
        case d6 => omega
        intro v2 w2 hown2 hgrow2 _
        have hb4 : Below B w w2 := (hb1.trans (hb3.mono hBc)).grown hgrow2 (by omega) (fun j hj => (hown3.lt j hj).1)
        have hs2 : B ≤ w2.heap.size := by have := hgrow2.size; omega
        go_wp2_with (at_builtin; refine wpList_append_own _ rfl (.tmp 40) (.tmp 41) 71 rfl B 5 i0 (.int .u8 0) 1 1 Tryd.underlying71 hi hz0 hz1 hz2 rfl (by decide) _ _ _ rfl (hown2.alloc _) ⟨w2.heap.size, 0, none⟩ 1 1 [.int .u8 59] rfl rfl ?e1 ?e2 ?e3 ?e4 ?e5 ?_)
        case e1 => exact cell_one_new _ _ _
        case e2 => intro u hu; simp at hu; subst hu; rfl
        case e3 => unfold maxLen sgn; split <;> simp <;> omega
        case e4 => unfold sgn; split <;> simp <;> omega
        case e5 => simp; omega
        intro v3 w3 hown3' hgrow3 _
        go_wp2
        go_ret
        have he := encI_of n k q t (by omega) he'.out
        rw [← Hcc.out] at he
        refine ⟨v3, rfl, ?_, (hb4.alloc hs2 _).grown hgrow3 (by simp; omega) (fun j hj => (hown2.lt j hj).1)⟩
        rw [he, bc_append, bc_append]
        have hl : (sgn n ++ c :: t ++ [59]).length = (sgn n).length + (20 - k) + 1 := by rw [hlen.out]; simp only [List.length_append, List.length_cons, List.length_nil]
        rw [hl]
        have hh := hown3'
        simp only [List.append_assoc, Nat.add_assoc] at hh ⊢
        exact hh

end Go.Proofs.YtemldlhhlneleaaDoor.Wi
