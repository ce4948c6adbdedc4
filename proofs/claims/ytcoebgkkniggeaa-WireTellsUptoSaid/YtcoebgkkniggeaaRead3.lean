/-
  wire.ReadString.
-/
import Derived.Test.YtcoebgkkniggeaaRead2
namespace Go.Proofs.Ytcoebgkkniggeaa
open Go.RowKit

def tS : Option (List UInt8 × List UInt8) → Value
  | none => .tuple #[.string ⟨#[]⟩, .string ⟨#[]⟩, .bool false]
  | some p => .tuple #[.string (mk p.1), .string (mk p.2), .bool true]

def SPost (s : ByteArray) (w : World) (e : Ending) (w' : World) : Prop := e = .returned (tS (Wm.rdS s.data.toList)) ∧ Below w.heap.size w w'

theorem extract_to (l : List UInt8) (k : Nat) : (mk l).extract 0 k = mk (l.take k) := by
  apply ByteArray.ext
  rw [ByteArray.data_extract]
  unfold mk
  apply Array.ext'
  rw [Array.toList_extract]
  simp [List.extract_eq_take_drop]
theorem extract_from (l : List UInt8) (k : Nat) : (mk l).extract k (mk l).size = mk (l.drop k) := extract_mk (mk l) k

theorem spost_none {s : ByteArray} {w w' : World} (h : Wm.rdS s.data.toList = none) (hb : Below w.heap.size w w') : SPost s w (.returned (.tuple #[.string ⟨#[]⟩, .string ⟨#[]⟩, .bool false])) w' := by
  unfold SPost; rw [h]; exact ⟨rfl, hb⟩
theorem spost_some {s : ByteArray} {w w' : World} {r : List UInt8} {n : Nat} (h : Wm.rdS s.data.toList = some (r.take n, r.drop n)) (hb : Below w.heap.size w w') : SPost s w (.returned (.tuple #[.string ((mk r).extract 0 n), .string ((mk r).extract n (mk r).size), .bool true])) w' := by
  unfold SPost; rw [h, extract_to, extract_from]; exact ⟨rfl, hb⟩

theorem s_none {l : List UInt8} (h : Wm.rdI l = none) : Wm.rdS l = none := by unfold Wm.rdS; rw [h]; rfl
theorem s_some {l : List UInt8} {n : Int} {r : List UInt8} (h : Wm.rdI l = some (n, r)) : Wm.rdS l = if n < 0 ∨ (r.length : Int) < n then none else some (r.take n.toNat, r.drop n.toNat) := by unfold Wm.rdS; rw [h]; rfl

theorem rdI_rest {l : List UInt8} {n : Int} {r : List UInt8} (h : Wm.rdI l = some (n, r)) : r.length + 2 ≤ l.length := by
  have h1 := (Wm.rdI_only _ _ _ h).1
  have h2 := (Wm.encI_len n).1
  rw [h1, List.length_append]
  omega

set_option maxHeartbeats 800000 in
theorem ReadString_x (s : ByteArray) (w : World) (hs : s.size ≤ 1099511627776) :
    Calls Try.prog 19 #[.string s] w fun e w' => SPost s w e w' := by
  go_enter Try.func19, Try.ntmps19
  go_wp2_with fail
  refine (ReadInt_x s _ hs).mono ?_
  rintro e w1 ⟨rfl, hb1⟩
  cases hz : Wm.rdI s.data.toList with
  | none =>
    have hI := Lib.hid (s_none hz)
    clear hz
    simp only [tI]
    go_wp2
    go_ret3
    exact spost_none hI.out hb1
  | some p =>
    obtain ⟨n, r⟩ := p
    have hI := Lib.hid (s_some hz)
    have hn := (Wm.rdI_only _ _ _ hz).2
    have hr := rdI_rest hz
    have hms : Hid ((mk r).size = r.length) := rfl
    have hsl := size_of s
    have hrs : (mk r).size ≤ 1099511627776 := by rw [hms.out]; omega
    clear hz hr hsl
    obtain ⟨hn1, hn2⟩ := hn
    simp only [tI]
    by_cases h0 : n < 0
    · go_wp2
      go_ret3
      exact spost_none (by rw [hI.out, if_pos (.inl (by omega))]) hb1
    · by_cases h1 : ((mk r).size : Int) < n
      · go_wp2
        go_ret3
        exact spost_none (by rw [hI.out, if_pos (.inr (by rw [← hms.out]; omega))]) hb1
      · have hR := hI.out
        rw [if_neg (by rw [← hms.out]; omega)] at hR
        have HR := Lib.hid hR
        clear hR
        obtain ⟨m, rfl⟩ : ∃ m : Nat, n = m := ⟨n.toNat, by omega⟩
        go_wp2
        go_region
        all_goals go_wp2
        all_goals go_ret3
        all_goals exact spost_some HR.out (by repeat (first | exact hb1 | apply Below.drew))

end Go.Proofs.Ytcoebgkkniggeaa
