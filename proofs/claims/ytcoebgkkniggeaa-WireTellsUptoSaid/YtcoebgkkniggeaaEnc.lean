/-
  wire.appendString, writeList, Int, String, Ints, Strings: each returns the encoding.
-/
import Derived.Test.YtcoebgkkniggeaaAppI
namespace Go.Proofs.Ytcoebgkkniggeaa
open Go.RowKit

theorem strCells_bc (s : ByteArray) : Lib.strCells s = bc s.data.toList := rfl

set_option maxHeartbeats 400000 in
theorem appendString_x (B : Nat) (v : Value) (m : Nat) (xs : List Value) (s : ByteArray) (w : World) (hB : B ≤ w.heap.size) (hown : w.ownsRow B 5 1 v m xs) (hs : s.size ≤ 1099511627776) (hm : m ≤ 1099511627776) :
    Calls Try.prog 28 #[v, .string s] w fun e w' => ∃ v', e = .returned v' ∧ w'.ownsRow B 5 1 v' (m + (Wm.encS s.data.toList).length) (xs ++ bc (Wm.encS s.data.toList)) ∧ Below B w w' := by
  obtain ⟨i0, hi, hz0, hz1, hz2⟩ := info_parts info5
  have hel := (Wm.encI_len (s.size : Int)).2
  go_enter Try.func28, Try.ntmps28
  go_wp2_with fail
  refine (appendInt_x B v m xs (s.size : Int) _ hB hown (by omega) (by omega) hm).mono ?_
  rintro e w1 ⟨v1, rfl, hown1, hb1⟩
  have hB1 : B ≤ w1.heap.size := by have := hb1.size; omega
  go_wp2_with (at_builtin; refine Lib.wpList_append_own_string _ rfl (.tmp 8) (.tmp 9) 44 9 rfl B 5 i0 Try.underlying44 Try.underlying9 hi hz0 hz1 hz2 _ _ _ rfl hown1 s rfl ?c1 ?c2 ?c3 ?_)
  case c1 => unfold maxLen; omega
  case c2 => omega
  case c3 => omega
  intro v2 w2 hown2 hgrow2 _
  go_wp2
  go_ret
  refine ⟨v2, rfl, ?_, hb1.grown hgrow2 hB1 (fun j hj => (hown1.lt j hj).1)⟩
  unfold Wm.encS
  rw [← size_of s, bc_append, List.length_append, ← size_of s, ← Nat.add_assoc]
  exact hown2

/-- A slice value reads as a list of values. -/
def SlAt (w : World) (v : Value) (vs : List Value) : Prop := ∃ a cap, v = .slice a vs.length cap ∧ ∀ j x, vs[j]? = some x → ∃ b off, a = some ⟨b, off, none⟩ ∧ b < w.heap.size ∧ w.cell? ⟨b, off + j, none⟩ = some x

theorem SlAt.below {w w' : World} {v : Value} {vs : List Value} {B : Nat} (h : SlAt w v vs) (hb : Below B w w') (hB : w.heap.size ≤ B) : SlAt w' v vs := by
  obtain ⟨a, cap, rfl, h⟩ := h
  refine ⟨a, cap, rfl, fun j x hx => ?_⟩
  obtain ⟨b, off, e, hlt, hc⟩ := h j x hx
  refine ⟨b, off, e, by have := hb.size; omega, ?_⟩
  rw [hb.cell (p := ⟨b, off + j, none⟩) (by show b < B; omega)]
  exact hc

/-- the first k elements' encoding, behind the number of all -/
def pre {α : Type} (enc : α → List UInt8) (l : List α) (k : Nat) : List UInt8 := Wm.encI l.length ++ ((l.take k).map enc).flatten

theorem pre_all {α : Type} (enc : α → List UInt8) (l : List α) : pre enc l l.length = Wm.encL enc l := by
  unfold pre Wm.encL; rw [List.take_length]
theorem pre_zero {α : Type} (enc : α → List UInt8) (l : List α) : pre enc l 0 = Wm.encI l.length := by simp [pre]
theorem pre_succ {α : Type} (enc : α → List UInt8) (l : List α) (k : Nat) (x : α) (h : l[k]? = some x) : pre enc l (k + 1) = pre enc l k ++ enc x := by
  unfold pre
  rw [List.take_add_one, h]
  simp
theorem pre_le {α : Type} (enc : α → List UInt8) (l : List α) (k : Nat) : (pre enc l k).length ≤ (Wm.encL enc l).length := by
  unfold pre Wm.encL
  simp only [List.length_append]
  have h : ((l.map enc).flatten).length = (((l.take k).map enc).flatten).length + (((l.drop k).map enc).flatten).length := by
    rw [← List.length_append, ← List.flatten_append, ← List.map_append, List.take_append_drop]
  omega

def WlRel {α : Type} (enc : α → List UInt8) (l : List α) (w : World) (b i : Value) (wr : World) : Prop := ∃ k, k ≤ l.length ∧ i = .int .i64 (k : Nat) ∧ wr.ownsRow w.heap.size 5 1 b (pre enc l k).length (bc (pre enc l k)) ∧ Below w.heap.size w wr

theorem wl_start {α : Type} (enc : α → List UInt8) (l : List α) (w w1 : World) (b : Value) (h : w1.ownsRow w.heap.size 5 1 b (0 + (Wm.encI l.length).length) ([] ++ bc (Wm.encI l.length))) (hb : Below w.heap.size w w1) : WlRel enc l w b (.int .i64 0) w1 :=
  ⟨0, Nat.zero_le _, rfl, by rw [pre_zero]; simpa using h, hb⟩
theorem wl_step {α : Type} (enc : α → List UInt8) (l : List α) (w wr w1 : World) (b : Value) (k : Nat) (x : α) (hx : l[k]? = some x) (h : w1.ownsRow w.heap.size 5 1 b ((pre enc l k).length + (enc x).length) (bc (pre enc l k) ++ bc (enc x)))
    (hb0 : Below w.heap.size w wr) (hb : Below w.heap.size wr w1) : WlRel enc l w b (.int .i64 ((k : Int) + 1)) w1 := by
  have hk : k < l.length := (List.getElem?_eq_some_iff.1 hx).1
  refine ⟨k + 1, by omega, rfl, ?_, hb0.trans hb⟩
  rw [pre_succ enc l k x hx, bc_append, List.length_append]
  exact h

set_option maxHeartbeats 800000 in
theorem writeInts_x (v : Value) (zs : List Int) (w : World) (hat : SlAt w v (zs.map (Value.int .i64))) (hz : ∀ z ∈ zs, Wm.isInt z) (hl : (Wm.encL Wm.encI zs).length ≤ 1099511627776) (hn : zs.length ≤ 1099511627776) :
    Calls Try.prog 29 #[v, .func (.func 27) #[] #[]] w fun e w' => ∃ v', e = .returned v' ∧ w'.ownsRow w.heap.size 5 1 v' (Wm.encL Wm.encI zs).length (bc (Wm.encL Wm.encI zs)) ∧ Below w.heap.size w w' := by
  obtain ⟨a, cap, rfl, hc⟩ := hat
  rw [List.length_map]
  go_enter Try.func29, Try.ntmps29
  go_wp2_with fail
  refine (appendInt_x w.heap.size _ 0 [] (zs.length : Int) _ (Nat.le_refl _) (World.ownsRow_nil _ _ _ _) (by omega) (by omega) (by omega)).mono ?_
  rintro e w1 ⟨v1, rfl, hown1, hb1⟩
  go_wp2_with fail
  go_loopw [5, 13] (fun b i wr => WlRel Wm.encI zs w b i wr) (fun _ i _ => zs.length - (intOf i).toNat)
  case atStart => exact wl_start Wm.encI zs w w1 v1 hown1 hb1
  case round =>
    obtain ⟨k, hk, rfl, hown, hb⟩ := hrel
    have hsz : w.heap.size ≤ wr.heap.size := hb.size
    by_cases hlt : k < zs.length
    · have hx : Hid (zs[k]? = some zs[k]) := List.getElem?_eq_getElem hlt
      obtain ⟨b, off, rfl, hbl, hcell⟩ := hc k (.int .i64 zs[k]) (by simp [List.getElem?_map, hx.out])
      have hcr := (hb.cell (p := ⟨b, off + k, none⟩) hbl).trans hcell
      have hzk := hz zs[k] (by simp)
      obtain ⟨z, ez⟩ : ∃ z, z = zs[k] := ⟨_, rfl⟩
      rw [← ez] at hx hcr hzk
      have Ez := Lib.hid ez
      clear ez hcell hc hz
      have hpl := pre_le Wm.encI zs k
      go_wp2_with fail
      refine (appendInt_x w.heap.size _ _ _ z _ hsz hown hzk.1 hzk.2 (by omega)).mono ?_
      rintro e w2 ⟨v2, rfl, hown2, hb2⟩
      go_wp2
      go_roundw
      case rel => exact wl_step Wm.encI zs w wr w2 v2 k z hx.out hown2 hb hb2
      case measure => simp [intOf]; omega
    · go_wp2
      go_ret
      have hk' : k = zs.length := by omega
      subst hk'
      rw [pre_all] at hown
      exact ⟨_, rfl, hown, hb⟩

set_option maxHeartbeats 800000 in
theorem writeStrings_x (v : Value) (ss : List (List UInt8)) (w : World) (hat : SlAt w v (ss.map fun s => Value.string (mk s))) (hl : (Wm.encL Wm.encS ss).length ≤ 1099511627776) (hn : ss.length ≤ 1099511627776) :
    Calls Try.prog 30 #[v, .func (.func 28) #[] #[]] w fun e w' => ∃ v', e = .returned v' ∧ w'.ownsRow w.heap.size 5 1 v' (Wm.encL Wm.encS ss).length (bc (Wm.encL Wm.encS ss)) ∧ Below w.heap.size w w' := by
  obtain ⟨a, cap, rfl, hc⟩ := hat
  rw [List.length_map]
  go_enter Try.func30, Try.ntmps30
  go_wp2_with fail
  refine (appendInt_x w.heap.size _ 0 [] (ss.length : Int) _ (Nat.le_refl _) (World.ownsRow_nil _ _ _ _) (by omega) (by omega) (by omega)).mono ?_
  rintro e w1 ⟨v1, rfl, hown1, hb1⟩
  go_wp2_with fail
  go_loopw [5, 13] (fun b i wr => WlRel Wm.encS ss w b i wr) (fun _ i _ => ss.length - (intOf i).toNat)
  case atStart => exact wl_start Wm.encS ss w w1 v1 hown1 hb1
  case round =>
    obtain ⟨k, hk, rfl, hown, hb⟩ := hrel
    have hsz : w.heap.size ≤ wr.heap.size := hb.size
    by_cases hlt : k < ss.length
    · have hx : Hid (ss[k]? = some ss[k]) := List.getElem?_eq_getElem hlt
      obtain ⟨b, off, rfl, hbl, hcell⟩ := hc k (.string (mk ss[k])) (by simp [List.getElem?_map, hx.out])
      have hcr := (hb.cell (p := ⟨b, off + k, none⟩) hbl).trans hcell
      obtain ⟨z, ez⟩ : ∃ z, z = ss[k] := ⟨_, rfl⟩
      rw [← ez] at hx hcr
      have Ez := Lib.hid ez
      clear ez hcell hc
      have hpl := pre_le Wm.encS ss k
      have hpl2 := pre_le Wm.encS ss (k + 1)
      rw [pre_succ Wm.encS ss k z hx.out, List.length_append] at hpl2
      have hzs : z.length ≤ (Wm.encS z).length := by unfold Wm.encS; simp
      have hms : (mk z).size = z.length := rfl
      have Hms := Lib.hid hms
      clear hms
      go_wp2_with fail
      refine (appendString_x w.heap.size _ _ _ (mk z) _ hsz hown (by rw [Hms.out]; omega) (by omega)).mono ?_
      rintro e w2 ⟨v2, rfl, hown2, hb2⟩
      go_wp2
      go_roundw
      case rel => exact wl_step Wm.encS ss w wr w2 v2 k z hx.out hown2 hb hb2
      case measure => simp [intOf]; omega
    · go_wp2
      go_ret
      have hk' : k = ss.length := by omega
      subst hk'
      rw [pre_all] at hown
      exact ⟨_, rfl, hown, hb⟩


end Go.Proofs.Ytcoebgkkniggeaa
