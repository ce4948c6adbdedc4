/-
  The reference's Number, ReadString, ReadInts, ReadStrings.
-/
import Derived.Test.YtemldlhhlneleaaDoorWiRef3
namespace Go.Proofs.YtemldlhhlneleaaDoor.Wi
open Go.RowKit


theorem isI_eq {s : ByteArray} {w : World} {e : Ending} {w' : World} (h : IPost s w e w') : e = .returned (tI (Wm.rdI s.data.toList)) ∧ Below w.heap.size w w' := h

/-- none, or a number that is not negative -/
def NPost (s : ByteArray) (w : World) (e : Ending) (w' : World) : Prop := Below w.heap.size w w' ∧
  ((e = .returned (.tuple #[.int .i64 0, .string ⟨#[]⟩, .bool false]) ∧ (Wm.rdI s.data.toList = none ∨ ∃ n r, Wm.rdI s.data.toList = some (n, r) ∧ n < 0)) ∨
   (∃ (n : Nat) (r : List UInt8), e = .returned (.tuple #[.int .i64 (n : Int), .string (mk r), .bool true]) ∧ Wm.rdI s.data.toList = some ((n : Int), r) ∧ n ≤ 9223372036854775807))

set_option maxHeartbeats 800000 in
theorem RNumber_x (s : ByteArray) (w : World) (hs : s.size ≤ 1099511627776) :
    Calls Tryd.prog 67 #[.string s] w fun e w' => NPost s w e w' := by
  go_enter Tryd.func67, Tryd.ntmps67
  go_wp2_with fail
  refine (RReadInt_x s _ hs).mono ?_
  rintro e w1 ⟨rfl, hb1⟩
  cases hz : Wm.rdI s.data.toList with
  | none =>
    have hZ := Lib.hid hz
    clear hz
    simp only [tI]
    go_wp2
    go_ret3
    exact ⟨hb1, .inl ⟨rfl, .inl hZ.out⟩⟩
  | some p =>
    obtain ⟨n, r⟩ := p
    have hn := (Wm.rdI_only _ _ _ hz).2
    obtain ⟨hn1, hn2⟩ := hn
    have hZ := Lib.hid hz
    clear hz
    simp only [tI]
    by_cases h0 : n < 0
    · go_wp2
      go_ret3
      exact ⟨hb1, .inl ⟨rfl, .inr ⟨n, r, hZ.out, by omega⟩⟩⟩
    · obtain ⟨m, rfl⟩ : ∃ m : Nat, n = m := ⟨n.toNat, by omega⟩
      go_wp2
      go_ret3
      exact ⟨hb1, .inr ⟨m, r, rfl, hZ.out, by omega⟩⟩

theorem s_of_none {l : List UInt8} (h : Wm.rdI l = none ∨ ∃ n r, Wm.rdI l = some (n, r) ∧ n < 0) : Wm.rdS l = none := by
  rcases h with h | ⟨n, r, h, hn⟩
  · exact s_none h
  · rw [s_some h, if_pos (.inl hn)]

set_option maxHeartbeats 800000 in
theorem RReadString_x (s : ByteArray) (w : World) (hs : s.size ≤ 1099511627776) :
    Calls Tryd.prog 47 #[.string s] w fun e w' => SPost s w e w' := by
  go_enter Tryd.func47, Tryd.ntmps47
  go_wp2_with fail
  refine (RNumber_x s _ hs).mono ?_
  rintro e w1 ⟨hb1, ⟨rfl, hz⟩ | ⟨n, r, rfl, hz, hn⟩⟩
  · have hI := Lib.hid (s_of_none hz)
    clear hz
    go_wp2
    go_ret3
    exact spost_none hI.out hb1
  · have hI := Lib.hid (s_some hz)
    have hms : Hid ((mk r).size = r.length) := rfl
    have hr := rdI_rest hz
    have hsl := size_of s
    have hrs : (mk r).size ≤ 1099511627776 := by rw [hms.out]; omega
    clear hz hr hsl
    by_cases h1 : ((mk r).size : Int) < n
    · go_wp2
      go_ret3
      exact spost_none (by rw [hI.out, if_pos (.inr (by rw [← hms.out]; omega))]) hb1
    · have hR := hI.out
      rw [if_neg (by rw [← hms.out]; omega)] at hR
      have HR := Lib.hid hR
      clear hR
      go_wp2
      go_region
      all_goals go_wp2
      all_goals go_ret3
      all_goals exact spost_some HR.out (by repeat (first | exact hb1 | apply Below.drew))

end Go.Proofs.YtemldlhhlneleaaDoor.Wi
