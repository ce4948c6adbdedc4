/-
  The reference's String, Ints, Strings.
-/
import Derived.Test.YtcoebgkkniggeaaRef1
import Derived.Test.YtcoebgkkniggeaaNestsW
namespace Go.Proofs.Ytcoebgkkniggeaa
open Go.RowKit

theorem cat_of (l : List UInt8) (s : ByteArray) : mk l ++ s = mk (l ++ s.data.toList) := by
  apply ByteArray.ext
  rw [ByteArray.data_append]
  apply Array.ext'
  rw [Array.toList_append]
  rfl

theorem RString_x (s : ByteArray) (w : World) (hs : s.size ≤ 1099511627776) : Calls Try.prog 12 #[.string s] w fun e w' => e = .returned (.string (mk (Wm.encS s.data.toList))) ∧ w = w' := by
  have hl : (mk (Wm.encI (s.size : Int))).size ≤ 22 := (Wm.encI_len _).2
  go_enter Try.func12, Try.ntmps12
  go_wp2_with fail
  refine (RInt_x (s.size : Int) _ ⟨by omega, by omega⟩).mono ?_
  rintro e w1 ⟨rfl, rfl⟩
  go_wp2
  go_ret
  rw [cat_of, Wm.encS, ← size_of]
  exact ⟨rfl, rfl⟩

def RlRel {α : Type} (enc : α → List UInt8) (l : List α) (out i : Value) : Prop := ∃ k, k ≤ l.length ∧ i = .int .i64 (k : Nat) ∧ out = .string (mk (pre enc l k))

set_option maxHeartbeats 800000 in
theorem RInts_x (v : Value) (zs : List Int) (w : World) (hat : SlAt w v (zs.map (Value.int .i64))) (hz : ∀ z ∈ zs, Wm.isInt z) (hl : (Wm.encL Wm.encI zs).length ≤ 1099511627776) (hn : zs.length ≤ 1099511627776) :
    Calls Try.prog 14 #[v] w fun e w' => e = .returned (.string (mk (Wm.encL Wm.encI zs))) ∧ w = w' := by
  obtain ⟨a, cap, rfl, hc⟩ := hat
  rw [List.length_map]
  go_enter Try.func14, Try.ntmps14
  go_wp2_with fail
  refine (RInt_x (zs.length : Int) _ ⟨by omega, by omega⟩).mono ?_
  rintro e w1 ⟨rfl, rfl⟩
  go_wp2_with fail
  go_loop [3, 4] (fun out i => RlRel Wm.encI zs out i) (fun _ i => zs.length - (intOf i).toNat)
  case atStart => exact ⟨0, Nat.zero_le _, rfl, by rw [pre_zero]⟩
  case round =>
    obtain ⟨k, hk, rfl, rfl⟩ := hrel
    by_cases hlt : k < zs.length
    · have hx : Hid (zs[k]? = some zs[k]) := List.getElem?_eq_getElem hlt
      obtain ⟨b, off, rfl, hbl, hcell⟩ := hc k (.int .i64 zs[k]) (by simp [List.getElem?_map, hx.out])
      have hzk := hz zs[k] (by simp)
      obtain ⟨z, ez⟩ : ∃ z, z = zs[k] := ⟨_, rfl⟩
      rw [← ez] at hx hcell hzk
      have Ez := Lib.hid ez
      have Hzk := Lib.hid hzk
      clear ez hc hz hzk
      have hpl : (mk (pre Wm.encI zs k)).size ≤ 1099511627776 := Nat.le_trans (pre_le Wm.encI zs k) hl
      have hel : (mk (Wm.encI z)).size ≤ 22 := (Wm.encI_len z).2
      have hcat := mk_append (pre Wm.encI zs k) (Wm.encI z)
      have Hcat := Lib.hid hcat
      clear hcat
      go_wp2_with fail
      refine (RInt_x z _ Hzk.out).mono ?_
      rintro e w2 ⟨rfl, rfl⟩
      go_wp2
      go_round
      case rel => exact ⟨k + 1, by omega, rfl, by rw [pre_succ _ _ _ _ hx.out]; rw [Hcat.out]⟩
      case measure => simp [intOf]; omega
    · go_wp2
      go_ret
      have hk' : k = zs.length := by omega
      subst hk'
      rw [pre_all]
      exact ⟨rfl, rfl⟩

set_option maxHeartbeats 800000 in
theorem RStrings_x (v : Value) (ss : List (List UInt8)) (w : World) (hat : SlAt w v (ss.map vS)) (hl : (Wm.encL Wm.encS ss).length ≤ 549755813888) (hn : ss.length ≤ 1099511627776) :
    Calls Try.prog 16 #[v] w fun e w' => e = .returned (.string (mk (Wm.encL Wm.encS ss))) ∧ w = w' := by
  obtain ⟨a, cap, rfl, hc⟩ := hat
  rw [List.length_map]
  go_enter Try.func16, Try.ntmps16
  go_wp2_with fail
  refine (RInt_x (ss.length : Int) _ ⟨by omega, by omega⟩).mono ?_
  rintro e w1 ⟨rfl, rfl⟩
  go_wp2_with fail
  go_loop [3, 4] (fun out i => RlRel Wm.encS ss out i) (fun _ i => ss.length - (intOf i).toNat)
  case atStart => exact ⟨0, Nat.zero_le _, rfl, by rw [pre_zero]⟩
  case round =>
    obtain ⟨k, hk, rfl, rfl⟩ := hrel
    by_cases hlt : k < ss.length
    · have hx : Hid (ss[k]? = some ss[k]) := List.getElem?_eq_getElem hlt
      obtain ⟨b, off, rfl, hbl, hcell⟩ := hc k (vS ss[k]) (by simp [List.getElem?_map, hx.out])
      have hzl := str_le ss ss[k] (by simp)
      obtain ⟨z, ez⟩ : ∃ z, z = ss[k] := ⟨_, rfl⟩
      rw [← ez] at hx hcell hzl
      unfold vS at hcell
      have Ez := Lib.hid ez
      clear ez hc
      have hpl : (mk (pre Wm.encS ss k)).size ≤ 549755813888 := Nat.le_trans (pre_le Wm.encS ss k) hl
      have hel : (mk (Wm.encS z)).size ≤ 549755813888 + 22 := by
        have := (Wm.encI_len (z.length : Int)).2
        rw [mk_size, Wm.encS, List.length_append]
        omega
      have hcat := mk_append (pre Wm.encS ss k) (Wm.encS z)
      have Hcat := Lib.hid hcat
      clear hcat
      go_wp2_with fail
      refine (RString_x (mk z) _ (by rw [mk_size]; omega)).mono ?_
      rintro e w2 ⟨rfl, rfl⟩
      rw [mk_toList]
      go_wp2
      go_round
      case rel => exact ⟨k + 1, by omega, rfl, by rw [pre_succ _ _ _ _ hx.out]; rw [Hcat.out]⟩
      case measure => simp [intOf]; omega
    · go_wp2
      go_ret
      have hk' : k = ss.length := by omega
      subst hk'
      rw [pre_all]
      exact ⟨rfl, rfl⟩

end Go.Proofs.Ytcoebgkkniggeaa
