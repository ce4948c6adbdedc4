/-
  wire.ReadInt and ReadString.
-/
import Derived.Test.YtcoebgkkniggeaaRead
namespace Go.Proofs.Ytcoebgkkniggeaa
open Go.RowKit

def tI : Option (Int × List UInt8) → Value
  | none => .tuple #[.int .i64 0, .string ⟨#[]⟩, .bool false]
  | some p => .tuple #[.int .i64 p.1, .string (mk p.2), .bool true]

def IPost (s : ByteArray) (w : World) (e : Ending) (w' : World) : Prop := e = .returned (tI (Wm.rdI s.data.toList)) ∧ Below w.heap.size w w'

theorem ipost_none {s : ByteArray} {w w' : World} (h : Wm.rdI s.data.toList = none) (hb : Below w.heap.size w w') : IPost s w (.returned (.tuple #[.int .i64 0, .string ⟨#[]⟩, .bool false])) w' := by
  unfold IPost; rw [h]; exact ⟨rfl, hb⟩
theorem ipost_some {s : ByteArray} {w w' : World} {v : Int} {r : List UInt8} {x : Value} (h : Wm.rdI s.data.toList = some (v, r)) (hx : x = .int .i64 v) (hb : Below w.heap.size w w') : IPost s w (.returned (.tuple #[x, .string (mk r), .bool true])) w' := by
  unfold IPost; rw [h, hx]; exact ⟨rfl, hb⟩

theorem rdZ_le {l : List UInt8} {v : Nat} {r : List UInt8} (h : Wm.rdZ l = some (v, r)) : v ≤ 9223372036854775808 := (Wm.rdZ_only _ _ _ h).2

theorem i_plus_none {l : List UInt8} (h : l.head? ≠ some 45) (hz : Wm.rdZ l = none) : Wm.rdI l = none := by
  unfold Wm.rdI; rw [if_neg h, hz]; rfl
theorem i_plus {l : List UInt8} {v : Nat} {r : List UInt8} (h : l.head? ≠ some 45) (hz : Wm.rdZ l = some (v, r)) : Wm.rdI l = if v = Wm.top then none else some ((v : Int), r) := by
  unfold Wm.rdI; rw [if_neg h, hz]; rfl
theorem i_minus_none {l : List UInt8} (h : l.head? = some 45) (hz : Wm.rdZ l.tail = none) : Wm.rdI l = none := by
  unfold Wm.rdI; rw [if_pos h, hz]; rfl
theorem i_minus {l : List UInt8} {v : Nat} {r : List UInt8} (h : l.head? = some 45) (hz : Wm.rdZ l.tail = some (v, r)) : Wm.rdI l = if v = 0 then none else some (-(v : Int), r) := by
  unfold Wm.rdI; rw [if_pos h, hz]; rfl

theorem head_ne {s : ByteArray} (h : s.size = 0 ∨ ∃ h0 : 0 < s.size, ¬ (s[0].toNat : Int) = 45) : s.data.toList.head? ≠ some 45 := by
  rcases h with h | ⟨h0, h⟩
  · have : s.data.toList = [] := List.eq_nil_of_length_eq_zero (by rw [← size_of]; exact h)
    rw [this]; simp
  · rw [head_of s h0]
    intro e
    apply h
    have e' : s[0] = 45 := by simpa using e
    rw [e']; rfl
theorem head_eq {s : ByteArray} (h0 : 0 < s.size) (h : (s[0].toNat : Int) = 45) : s.data.toList.head? = some 45 := by
  rw [head_of s h0]
  congr 1
  exact UInt8.toNat_inj.1 (by show _ = 45; omega)
theorem tail_eq (s : ByteArray) : (s.extract 1 s.size).data.toList = s.data.toList.tail := by
  rw [extract_mk, mk_toList, List.drop_one]

theorem neg_wrap (v : Nat) (h : v ≤ 9223372036854775808) : wrap64 (IntKind.u64.wrap (-(v : Int))) = -(v : Int) := by
  simp only [wrap64, IntKind.wrap, IntKind.bits, IntKind.signed]
  simp
  omega

set_option maxHeartbeats 800000 in
theorem ReadInt_x (s : ByteArray) (w : World) (hs : s.size ≤ 1099511627776) :
    Calls Try.prog 17 #[.string s] w fun e w' => IPost s w e w' := by
  by_cases hp : s.size = 0 ∨ ∃ h0 : 0 < s.size, ¬ (s[0].toNat : Int) = 45
  · have hh := head_ne hp
    have Hh := Lib.hid hh
    clear hh
    go_enter Try.func17, Try.ntmps17
    rcases hp with hp | ⟨h0, hp⟩
    · have hb0 : ((s.size : Int) == 0) = true := by rw [beq_iff_eq]; omega
      clear hp
      go_wp2_with fail
      refine (readSize_x s _ hs).mono ?_
      rintro e w1 ⟨rfl, hb1⟩
      cases hz : Wm.rdZ s.data.toList with
      | none =>
        have hI := Lib.hid (i_plus_none Hh.out hz)
        clear hz
        simp only [tZ]
        go_wp2
        go_ret3
        exact ipost_none hI.out hb1
      | some p =>
        obtain ⟨v, r⟩ := p
        have hI := Lib.hid (i_plus Hh.out hz)
        have hv := rdZ_le hz
        clear hz
        simp only [tZ]
        go_wp2
        · have he := beq_iff_eq.1 (show ((v : Int) == 9223372036854775808) = true from by assumption)
          go_ret3
          exact ipost_none (by rw [hI.out, if_pos (by unfold Wm.top; omega)]) hb1
        · have he := beq_eq_false_iff_ne.1 (show ((v : Int) == 9223372036854775808) = false from by assumption)
          go_ret3
          exact ipost_some (by rw [hI.out, if_neg (by unfold Wm.top; omega)]) (by rw [IntWalk.wrap64_in (v : Int) ⟨by omega, by omega⟩]; rfl) hb1
    · have hb0 : ((s.size : Int) == 0) = false := by rw [beq_eq_false_iff_ne]; omega
      have hb1 : ((s[0].toNat : Int) != 45) = true := by rw [bne_iff_ne]; exact hp
      clear hp
      go_wp2_with fail
      refine (readSize_x s _ hs).mono ?_
      rintro e w1 ⟨rfl, hb1⟩
      cases hz : Wm.rdZ s.data.toList with
      | none =>
        have hI := Lib.hid (i_plus_none Hh.out hz)
        clear hz
        simp only [tZ]
        go_wp2
        go_ret3
        exact ipost_none hI.out hb1
      | some p =>
        obtain ⟨v, r⟩ := p
        have hI := Lib.hid (i_plus Hh.out hz)
        have hv := rdZ_le hz
        clear hz
        simp only [tZ]
        go_wp2
        · have he := beq_iff_eq.1 (show ((v : Int) == 9223372036854775808) = true from by assumption)
          go_ret3
          exact ipost_none (by rw [hI.out, if_pos (by unfold Wm.top; omega)]) hb1
        · have he := beq_eq_false_iff_ne.1 (show ((v : Int) == 9223372036854775808) = false from by assumption)
          go_ret3
          exact ipost_some (by rw [hI.out, if_neg (by unfold Wm.top; omega)]) (by rw [IntWalk.wrap64_in (v : Int) ⟨by omega, by omega⟩]; rfl) hb1
  · have h0 : 0 < s.size := by
      by_cases h : s.size = 0
      · exact absurd (.inl h) hp
      · omega
    have h45 : (s[0].toNat : Int) = 45 := by
      by_cases h : (s[0].toNat : Int) = 45
      · exact h
      · exact absurd (.inr ⟨h0, h⟩) hp
    have Hh := Lib.hid (head_eq h0 h45)
    have hbz : ((s.size : Int) == 0) = false := by rw [beq_eq_false_iff_ne]; omega
    have hbm : ((s[0].toNat : Int) != 45) = false := by simp [h45]
    have hx : (s.extract 1 s.size).size ≤ 1099511627776 := by rw [extract_mk, mk_size, List.length_drop, ← size_of]; omega
    have Hx := Lib.hid hx
    clear hp h45 hx
    go_enter Try.func17, Try.ntmps17
    go_wp2_with fail
    refine (readSize_x (s.extract 1 s.size) _ Hx.out).mono ?_
    rintro e w1 ⟨rfl, hb1⟩
    rw [tail_eq]
    cases hz : Wm.rdZ s.data.toList.tail with
    | none =>
      have hI := Lib.hid (i_minus_none Hh.out hz)
      clear hz
      simp only [tZ]
      go_wp2
      go_ret3
      exact ipost_none hI.out hb1
    | some p =>
      obtain ⟨v, r⟩ := p
      have hI := Lib.hid (i_minus Hh.out hz)
      have hv := rdZ_le hz
      clear hz
      simp only [tZ]
      by_cases h0v : v = 0
      · have hv0 : ((v : Int) == 0) = true := by rw [beq_iff_eq]; omega
        have H0v := Lib.hid h0v
        clear h0v
        go_wp2
        go_ret3
        exact ipost_none (by rw [hI.out, if_pos H0v.out]) hb1
      · have hv0 : ((v : Int) == 0) = false := by rw [beq_eq_false_iff_ne]; omega
        go_wp2
        go_ret3
        exact ipost_some (by rw [hI.out, if_neg h0v]) (by rw [neg_wrap v hv]; rfl) hb1

end Go.Proofs.Ytcoebgkkniggeaa
