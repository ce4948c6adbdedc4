/-
  wire.readSize: it reads the digits and the semicolon that a text begins with.
-/
import Derived.Test.YtemldlhhlneleaaDoorWiKit
import Derived.Deep.DeepCutAuto
import Derived.Deep.QuietTactic
import Derived.BigQuiet
namespace Go.Proofs.YtemldlhhlneleaaDoor.Wi
open Go.RowKit


def tZ : Option (Nat × List UInt8) → Value
  | none => .tuple #[.int .u64 0, .string ⟨#[]⟩, .bool false]
  | some p => .tuple #[.int .u64 p.1, .string (mk p.2), .bool true]

def ZPost (s : ByteArray) (w : World) (e : Ending) (w' : World) : Prop := e = .returned (tZ (Wm.rdZ s.data.toList)) ∧ Below w.heap.size w w'

theorem drop_cons (s : ByteArray) (k : Nat) (h : k < s.size) : s.data.toList.drop k = s[k] :: s.data.toList.drop (k + 1) := by
  have hl : k < s.data.toList.length := by rw [← size_of]; exact h
  rw [List.drop_eq_getElem_cons hl]
  rfl
theorem head_of (s : ByteArray) (h : 0 < s.size) : s.data.toList.head? = some s[0] := by
  have := drop_cons s 0 h
  rw [List.drop_zero] at this
  rw [this]; rfl
theorem drop_end (s : ByteArray) : s.data.toList.drop s.size = [] := by
  rw [size_of, List.drop_length]
theorem extract_mk (s : ByteArray) (k : Nat) : s.extract k s.size = mk (s.data.toList.drop k) := by
  apply ByteArray.ext
  rw [ByteArray.data_extract]
  unfold mk
  apply Array.ext'
  rw [Array.toList_extract]
  simp only [List.extract_eq_take_drop]
  rw [List.take_of_length_le]
  rw [List.length_drop, ← size_of]
  omega

def At (s : ByteArray) (k v : Nat) : Prop := Wm.scan 0 s.data.toList = Wm.scan v (s.data.toList.drop k)

def ZRel (s : ByteArray) (z i : Value) : Prop := ∃ k v : Nat, k ≤ s.size ∧ i = .int .i64 k ∧ z = .int .u64 v ∧ v ≤ 9223372036854775808 ∧ At s k v

theorem at_start (s : ByteArray) : ZRel s (.int .u64 0) (.int .i64 0) := ⟨0, 0, Nat.zero_le _, rfl, rfl, by omega, by unfold At; rw [List.drop_zero]⟩
theorem at_step {s : ByteArray} {k v : Nat} (h : At s k v) (hk : k < s.size) (h1 : 48 ≤ (s[k].toNat : Int)) (h2 : (s[k].toNat : Int) ≤ 57) (h3 : (v : Int) ≤ (9223372036854775808 - ((s[k].toNat : Int) - 48)) / 10) :
    ZRel s (.int .u64 (10 * (v : Int) + ((s[k].toNat : Int) - 48))) (.int .i64 ((k : Int) + 1)) := by
  refine ⟨k + 1, 10 * v + (s[k].toNat - 48), by omega, rfl, ?_, by omega, ?_⟩
  · congr 1; omega
  · unfold At at *
    rw [h, drop_cons s k hk, Wm.scan, if_pos ((Wm.isDig_iff _).2 ⟨by omega, by omega⟩), if_neg (by unfold Wm.top; omega)]
theorem z_over {s : ByteArray} {k v : Nat} (h : At s k v) (hk : k < s.size) (h1 : 48 ≤ (s[k].toNat : Int)) (h2 : (s[k].toNat : Int) ≤ 57) (h3 : (9223372036854775808 - ((s[k].toNat : Int) - 48)) / 10 < (v : Int)) : Wm.rdZ s.data.toList = none := by
  unfold At at h
  unfold Wm.rdZ
  rw [h, drop_cons s k hk, Wm.scan, if_pos ((Wm.isDig_iff _).2 ⟨by omega, by omega⟩), if_pos (by unfold Wm.top; omega)]
  rfl
theorem z_at {s : ByteArray} {k v : Nat} (h : At s k v) (hk : k < s.size) (hd : ¬ (48 ≤ (s[k].toNat : Int) ∧ (s[k].toNat : Int) ≤ 57)) : Wm.rdZ s.data.toList = Wm.fin s.data.toList v (s[k] :: s.data.toList.drop (k + 1)) := by
  unfold At at h
  unfold Wm.rdZ
  rw [h, drop_cons s k hk, Wm.scan, if_neg (fun hh => hd (by have := (Wm.isDig_iff _).1 hh; omega))]
  rfl
theorem len_at {s : ByteArray} {k : Nat} (hk : k < s.size) : (s[k] :: s.data.toList.drop (k + 1)).length = s.data.toList.length - k := by
  rw [← drop_cons s k hk, List.length_drop]
theorem z_no {s : ByteArray} {k v : Nat} (h : At s k v) (hk : k < s.size) (hd : ¬ (48 ≤ (s[k].toNat : Int) ∧ (s[k].toNat : Int) ≤ 57)) (hc : k = 0 ∨ (s[k].toNat : Int) ≠ 59 ∨ (∃ h0 : 0 < s.size, (s[0].toNat : Int) = 48 ∧ 1 < (k : Int))) : Wm.rdZ s.data.toList = none := by
  rw [z_at h hk hd]
  simp only [Wm.fin]
  rw [if_pos]
  rw [len_at hk]
  have hs := size_of s
  rcases hc with hc | hc | ⟨h0, h1, h2⟩
  · left; omega
  · right; left; intro e; rw [e] at hc; exact hc rfl
  · right; right
    refine ⟨?_, by omega⟩
    rw [head_of s h0]
    congr 1
    apply UInt8.toNat_inj.1
    show _ = 48
    omega
theorem z_yes {s : ByteArray} {k v : Nat} (h : At s k v) (hk : k < s.size) (h0 : 0 < s.size) (h59 : (s[k].toNat : Int) = 59) (hk0 : k ≠ 0) (hc : ¬ ((s[0].toNat : Int) = 48 ∧ 1 < (k : Int))) : Wm.rdZ s.data.toList = some (v, s.data.toList.drop (k + 1)) := by
  rw [z_at h hk (by omega)]
  simp only [Wm.fin]
  rw [if_neg]
  rw [len_at hk]
  have hs := size_of s
  rintro (h1 | h1 | ⟨h1, h2⟩)
  · omega
  · exact h1 (UInt8.toNat_inj.1 (by show _ = 59; omega))
  · rw [head_of s h0] at h1
    apply hc
    have e : s[0] = 48 := by simpa using h1
    refine ⟨by rw [e]; rfl, by omega⟩
theorem z_end {s : ByteArray} {k v : Nat} (h : At s k v) (hk : k = s.size) : Wm.rdZ s.data.toList = none := by
  subst hk
  unfold At at h
  unfold Wm.rdZ
  rw [h, drop_end]
  rfl

theorem zpost_none {s : ByteArray} {w w' : World} (h : Wm.rdZ s.data.toList = none) (hb : Below w.heap.size w w') : ZPost s w (.returned (.tuple #[.int .u64 0, .string ⟨#[]⟩, .bool false])) w' := by
  unfold ZPost; rw [h]; exact ⟨rfl, hb⟩
theorem zpost_some {s : ByteArray} {w w' : World} {v k : Nat} (h : Wm.rdZ s.data.toList = some (v, s.data.toList.drop (k + 1))) (hb : Below w.heap.size w w') : ZPost s w (.returned (.tuple #[.int .u64 v, .string (s.extract (k + 1) s.size), .bool true])) w' := by
  unfold ZPost; rw [h, extract_mk]; exact ⟨rfl, hb⟩

set_option maxHeartbeats 1600000 in
theorem readSize_x (s : ByteArray) (w : World) (hs : s.size ≤ 1099511627776) :
    Calls Tryd.prog 90 #[.string s] w fun e w' => ZPost s w e w' := by
  go_enter Tryd.func90, Tryd.ntmps90
  go_wp2_with fail
  go_loop [2, 5] (fun z i => ZRel s z i) (fun _ i => s.size - (intOf i).toNat)
  case atStart => exact at_start s
  case round =>
    obtain ⟨k, v, hk, rfl, rfl, hv, hat⟩ := hrel
    by_cases hlt : k < s.size
    · have h0 : 0 < s.size := by omega
      by_cases hd : 48 ≤ (s[k].toNat : Int) ∧ (s[k].toNat : Int) ≤ 57
      · obtain ⟨hd1, hd2⟩ := hd
        by_cases ho : (9223372036854775808 - ((s[k].toNat : Int) - 48)) / 10 < (v : Int)
        · have hz := Lib.hid (z_over hat hlt hd1 hd2 ho)
          go_wp2
          go_ret3
          exact zpost_none hz.out (Below.refl _ _)
        · have hz := Lib.hid (at_step hat hlt hd1 hd2 (by omega))
          go_wp2
          go_round
          case rel => exact hz.out
          case measure => simp [intOf]; omega
      · have hno := fun hc => z_no hat hlt hd hc
        have hyes := fun h59 hk0 hc => z_yes hat hlt h0 h59 hk0 hc
        have Hno := Lib.hid hno
        have Hyes := Lib.hid hyes
        clear hno hyes hat
        rcases (show (s[k].toNat : Int) < 48 ∨ 57 < (s[k].toNat : Int) from by omega) with hc | hc
        all_goals
          have Hd := Lib.hid hd
          clear hd
          by_cases hk0 : k = 0
          · have hz := Lib.hid (Hno.out (.inl hk0))
            have Hk0 := Lib.hid hk0
            have hb0 : ((k : Int) == 0) = true := by simp [hk0]
            clear hk0
            go_wp2
            go_ret3
            exact zpost_none hz.out (Below.refl _ _)
          · have hb0 : ((k : Int) == 0) = false := by rw [beq_eq_false_iff_ne]; omega
            have hb1 : ((k : Int) == (s.size : Int)) = false := by rw [beq_eq_false_iff_ne]; omega
            by_cases h59 : (s[k].toNat : Int) = 59
            · have hb2 : ((s[k].toNat : Int) != 59) = false := by simp [h59]
              by_cases h48 : (s[0].toNat : Int) = 48
              · have hb3 : ((s[0].toNat : Int) == 48) = true := by simp [h48]
                by_cases h1 : 1 < (k : Int)
                · have hz := Lib.hid (Hno.out (.inr (.inr ⟨h0, h48, h1⟩)))
                  clear h48 h59
                  go_wp2
                  go_ret3
                  exact zpost_none hz.out (Below.refl _ _)
                · have hz := Lib.hid (Hyes.out h59 hk0 (fun hh => h1 hh.2))
                  clear h48 h59
                  go_wp2
                  go_region
                  all_goals go_wp2
                  all_goals go_ret3
                  all_goals exact zpost_some hz.out (by repeat (first | exact Below.refl _ _ | apply Below.drew))
              · have hb3 : ((s[0].toNat : Int) == 48) = false := by rw [beq_eq_false_iff_ne]; exact h48
                have hz := Lib.hid (Hyes.out h59 hk0 (fun hh => h48 hh.1))
                clear h48 h59
                go_wp2
                go_region
                all_goals go_wp2
                all_goals go_ret3
                all_goals exact zpost_some hz.out (by repeat (first | exact Below.refl _ _ | apply Below.drew))
            · have hb2 : ((s[k].toNat : Int) != 59) = true := by simp [h59]
              have hz := Lib.hid (Hno.out (.inr (.inl h59)))
              clear h59
              go_wp2
              go_ret3
              exact zpost_none hz.out (Below.refl _ _)
    · have hz := Lib.hid (z_end hat (by omega))
      by_cases hk0 : k = 0
      · have hb0 : ((k : Int) == 0) = true := by simp [hk0]
        clear hk0
        go_wp2
        go_ret3
        exact zpost_none hz.out (Below.refl _ _)
      · have hb0 : ((k : Int) == 0) = false := by rw [beq_eq_false_iff_ne]; omega
        have hb1 : ((k : Int) == (s.size : Int)) = true := by rw [beq_iff_eq]; omega
        go_wp2
        go_ret3
        exact zpost_none hz.out (Below.refl _ _)

end Go.Proofs.YtemldlhhlneleaaDoor.Wi

/-
  wire.ReadInt and ReadString.
-/
namespace Go.Proofs.YtemldlhhlneleaaDoor.Wi
open Go.RowKit


def tI : Option (Int × List UInt8) → Value
  | none => .tuple #[.int .i64 0, .string ⟨#[]⟩, .bool false]
  | some p => .tuple #[.int .i64 p.1, .string (mk p.2), .bool true]

def IPost (s : ByteArray) (w : World) (e : Ending) (w' : World) : Prop := e = .returned (tI (Wm.rdI s.data.toList)) ∧ Below w.heap.size w w'

theorem ipost_none {s : ByteArray} {w w' : World} (h : Wm.rdI s.data.toList = none) (hb : Below w.heap.size w w') : IPost s w (.returned (.tuple #[.int .i64 0, .string ⟨#[]⟩, .bool false])) w' := by
  unfold IPost; rw [h]; exact ⟨rfl, hb⟩
theorem ipost_some {s : ByteArray} {w w' : World} {v : Int} {r : List UInt8} {x : Value} (h : Wm.rdI s.data.toList = some (v, r)) (hx : x = .int .i64 v) (hb : Below w.heap.size w w') : IPost s w (.returned (.tuple #[x, .string (mk r), .bool true])) w' := by
  unfold IPost; rw [h, hx]; exact ⟨rfl, hb⟩

theorem rdZ_le {l : List UInt8} {v : Nat} {r : List UInt8} (h : Wm.rdZ l = some (v, r)) : v ≤ 9223372036854775808 := (Wm.rdZ_only _ _ _ h).2

theorem i_plus_none {l : List UInt8} (h : l.head? ≠ some 45) (hz : Wm.rdZ l = none) : Wm.rdI l = none := by
  unfold Wm.rdI; rw [if_neg h, hz]; rfl
theorem i_plus {l : List UInt8} {v : Nat} {r : List UInt8} (h : l.head? ≠ some 45) (hz : Wm.rdZ l = some (v, r)) : Wm.rdI l = if v = Wm.top then none else some ((v : Int), r) := by
  unfold Wm.rdI; rw [if_neg h, hz]; rfl
theorem i_minus_none {l : List UInt8} (h : l.head? = some 45) (hz : Wm.rdZ l.tail = none) : Wm.rdI l = none := by
  unfold Wm.rdI; rw [if_pos h, hz]; rfl
theorem i_minus {l : List UInt8} {v : Nat} {r : List UInt8} (h : l.head? = some 45) (hz : Wm.rdZ l.tail = some (v, r)) : Wm.rdI l = if v = 0 then none else some (-(v : Int), r) := by
  unfold Wm.rdI; rw [if_pos h, hz]; rfl

theorem head_ne {s : ByteArray} (h : s.size = 0 ∨ ∃ h0 : 0 < s.size, ¬ (s[0].toNat : Int) = 45) : s.data.toList.head? ≠ some 45 := by
  rcases h with h | ⟨h0, h⟩
  · have : s.data.toList = [] := List.eq_nil_of_length_eq_zero (by rw [← size_of]; exact h)
    rw [this]; simp
  · rw [head_of s h0]
    intro e
    apply h
    have e' : s[0] = 45 := by simpa using e
    rw [e']; rfl
theorem head_eq {s : ByteArray} (h0 : 0 < s.size) (h : (s[0].toNat : Int) = 45) : s.data.toList.head? = some 45 := by
  rw [head_of s h0]
  congr 1
  exact UInt8.toNat_inj.1 (by show _ = 45; omega)
theorem tail_eq (s : ByteArray) : (s.extract 1 s.size).data.toList = s.data.toList.tail := by
  rw [extract_mk, mk_toList, List.drop_one]

theorem neg_wrap (v : Nat) (h : v ≤ 9223372036854775808) : wrap64 (IntKind.u64.wrap (-(v : Int))) = -(v : Int) := by
  simp only [wrap64, IntKind.wrap, IntKind.bits, IntKind.signed]
  simp
  omega

set_option maxHeartbeats 800000 in
theorem ReadInt_x (s : ByteArray) (w : World) (hs : s.size ≤ 1099511627776) :
    Calls Tryd.prog 86 #[.string s] w fun e w' => IPost s w e w' := by
  by_cases hp : s.size = 0 ∨ ∃ h0 : 0 < s.size, ¬ (s[0].toNat : Int) = 45
  · have hh := head_ne hp
    have Hh := Lib.hid hh
    clear hh
    go_enter Tryd.func86, Tryd.ntmps86
    rcases hp with hp | ⟨h0, hp⟩
    · have hb0 : ((s.size : Int) == 0) = true := by rw [beq_iff_eq]; omega
      clear hp
      go_wp2_with fail
      refine (readSize_x s _ hs).mono ?_
      rintro e w1 ⟨rfl, hb1⟩
      cases hz : Wm.rdZ s.data.toList with
      | none =>
        have hI := Lib.hid (i_plus_none Hh.out hz)
        clear hz
        simp only [tZ]
        go_wp2
        go_ret3
        exact ipost_none hI.out hb1
      | some p =>
        obtain ⟨v, r⟩ := p
        have hI := Lib.hid (i_plus Hh.out hz)
        have hv := rdZ_le hz
        clear hz
        simp only [tZ]
        go_wp2
        · have he := beq_iff_eq.1 (show ((v : Int) == 9223372036854775808) = true from by assumption)
          go_ret3
          exact ipost_none (by rw [hI.out, if_pos (by unfold Wm.top; omega)]) hb1
        · have he := beq_eq_false_iff_ne.1 (show ((v : Int) == 9223372036854775808) = false from by assumption)
          go_ret3
          exact ipost_some (by rw [hI.out, if_neg (by unfold Wm.top; omega)]) (by rw [IntWalk.wrap64_in (v : Int) ⟨by omega, by omega⟩]; rfl) hb1
    · have hb0 : ((s.size : Int) == 0) = false := by rw [beq_eq_false_iff_ne]; omega
      have hb1 : ((s[0].toNat : Int) != 45) = true := by rw [bne_iff_ne]; exact hp
      clear hp
      go_wp2_with fail
      refine (readSize_x s _ hs).mono ?_
      rintro e w1 ⟨rfl, hb1⟩
      cases hz : Wm.rdZ s.data.toList with
      | none =>
        have hI := Lib.hid (i_plus_none Hh.out hz)
        clear hz
        simp only [tZ]
        go_wp2
        go_ret3
        exact ipost_none hI.out hb1
      | some p =>
        obtain ⟨v, r⟩ := p
        have hI := Lib.hid (i_plus Hh.out hz)
        have hv := rdZ_le hz
        clear hz
        simp only [tZ]
        go_wp2
        · have he := beq_iff_eq.1 (show ((v : Int) == 9223372036854775808) = true from by assumption)
          go_ret3
          exact ipost_none (by rw [hI.out, if_pos (by unfold Wm.top; omega)]) hb1
        · have he := beq_eq_false_iff_ne.1 (show ((v : Int) == 9223372036854775808) = false from by assumption)
          go_ret3
          exact ipost_some (by rw [hI.out, if_neg (by unfold Wm.top; omega)]) (by rw [IntWalk.wrap64_in (v : Int) ⟨by omega, by omega⟩]; rfl) hb1
  · have h0 : 0 < s.size := by
      by_cases h : s.size = 0
      · exact absurd (.inl h) hp
      · omega
    have h45 : (s[0].toNat : Int) = 45 := by
      by_cases h : (s[0].toNat : Int) = 45
      · exact h
      · exact absurd (.inr ⟨h0, h⟩) hp
    have Hh := Lib.hid (head_eq h0 h45)
    have hbz : ((s.size : Int) == 0) = false := by rw [beq_eq_false_iff_ne]; omega
    have hbm : ((s[0].toNat : Int) != 45) = false := by simp [h45]
    have hx : (s.extract 1 s.size).size ≤ 1099511627776 := by rw [extract_mk, mk_size, List.length_drop, ← size_of]; omega
    have Hx := Lib.hid hx
    clear hp h45 hx
    go_enter Tryd.func86, Tryd.ntmps86
    go_wp2_with fail
    refine (readSize_x (s.extract 1 s.size) _ Hx.out).mono ?_
    rintro e w1 ⟨rfl, hb1⟩
    rw [tail_eq]
    cases hz : Wm.rdZ s.data.toList.tail with
    | none =>
      have hI := Lib.hid (i_minus_none Hh.out hz)
      clear hz
      simp only [tZ]
      go_wp2
      go_ret3
      exact ipost_none hI.out hb1
    | some p =>
      obtain ⟨v, r⟩ := p
      have hI := Lib.hid (i_minus Hh.out hz)
      have hv := rdZ_le hz
      clear hz
      simp only [tZ]
      by_cases h0v : v = 0
      · have hv0 : ((v : Int) == 0) = true := by rw [beq_iff_eq]; omega
        have H0v := Lib.hid h0v
        clear h0v
        go_wp2
        go_ret3
        exact ipost_none (by rw [hI.out, if_pos H0v.out]) hb1
      · have hv0 : ((v : Int) == 0) = false := by rw [beq_eq_false_iff_ne]; omega
        go_wp2
        go_ret3
        exact ipost_some (by rw [hI.out, if_neg h0v]) (by rw [neg_wrap v hv]; rfl) hb1

end Go.Proofs.YtemldlhhlneleaaDoor.Wi

/-
  wire.ReadString.
-/
namespace Go.Proofs.YtemldlhhlneleaaDoor.Wi
open Go.RowKit


def tS : Option (List UInt8 × List UInt8) → Value
  | none => .tuple #[.string ⟨#[]⟩, .string ⟨#[]⟩, .bool false]
  | some p => .tuple #[.string (mk p.1), .string (mk p.2), .bool true]

def SPost (s : ByteArray) (w : World) (e : Ending) (w' : World) : Prop := e = .returned (tS (Wm.rdS s.data.toList)) ∧ Below w.heap.size w w'

theorem extract_to (l : List UInt8) (k : Nat) : (mk l).extract 0 k = mk (l.take k) := by
  apply ByteArray.ext
  rw [ByteArray.data_extract]
  unfold mk
  apply Array.ext'
  rw [Array.toList_extract]
  simp [List.extract_eq_take_drop]
theorem extract_from (l : List UInt8) (k : Nat) : (mk l).extract k (mk l).size = mk (l.drop k) := extract_mk (mk l) k

theorem spost_none {s : ByteArray} {w w' : World} (h : Wm.rdS s.data.toList = none) (hb : Below w.heap.size w w') : SPost s w (.returned (.tuple #[.string ⟨#[]⟩, .string ⟨#[]⟩, .bool false])) w' := by
  unfold SPost; rw [h]; exact ⟨rfl, hb⟩
theorem spost_some {s : ByteArray} {w w' : World} {r : List UInt8} {n : Nat} (h : Wm.rdS s.data.toList = some (r.take n, r.drop n)) (hb : Below w.heap.size w w') : SPost s w (.returned (.tuple #[.string ((mk r).extract 0 n), .string ((mk r).extract n (mk r).size), .bool true])) w' := by
  unfold SPost; rw [h, extract_to, extract_from]; exact ⟨rfl, hb⟩

theorem s_none {l : List UInt8} (h : Wm.rdI l = none) : Wm.rdS l = none := by unfold Wm.rdS; rw [h]; rfl
theorem s_some {l : List UInt8} {n : Int} {r : List UInt8} (h : Wm.rdI l = some (n, r)) : Wm.rdS l = if n < 0 ∨ (r.length : Int) < n then none else some (r.take n.toNat, r.drop n.toNat) := by unfold Wm.rdS; rw [h]; rfl

theorem rdI_rest {l : List UInt8} {n : Int} {r : List UInt8} (h : Wm.rdI l = some (n, r)) : r.length + 2 ≤ l.length := by
  have h1 := (Wm.rdI_only _ _ _ h).1
  have h2 := (Wm.encI_len n).1
  rw [h1, List.length_append]
  omega

set_option maxHeartbeats 800000 in
theorem ReadString_x (s : ByteArray) (w : World) (hs : s.size ≤ 1099511627776) :
    Calls Tryd.prog 74 #[.string s] w fun e w' => SPost s w e w' := by
  go_enter Tryd.func74, Tryd.ntmps74
  go_wp2_with fail
  refine (ReadInt_x s _ hs).mono ?_
  rintro e w1 ⟨rfl, hb1⟩
  cases hz : Wm.rdI s.data.toList with
  | none =>
    have hI := Lib.hid (s_none hz)
    clear hz
    simp only [tI]
    go_wp2
    go_ret3
    exact spost_none hI.out hb1
  | some p =>
    obtain ⟨n, r⟩ := p
    have hI := Lib.hid (s_some hz)
    have hn := (Wm.rdI_only _ _ _ hz).2
    have hr := rdI_rest hz
    have hms : Hid ((mk r).size = r.length) := rfl
    have hsl := size_of s
    have hrs : (mk r).size ≤ 1099511627776 := by rw [hms.out]; omega
    clear hz hr hsl
    obtain ⟨hn1, hn2⟩ := hn
    simp only [tI]
    by_cases h0 : n < 0
    · go_wp2
      go_ret3
      exact spost_none (by rw [hI.out, if_pos (.inl (by omega))]) hb1
    · by_cases h1 : ((mk r).size : Int) < n
      · go_wp2
        go_ret3
        exact spost_none (by rw [hI.out, if_pos (.inr (by rw [← hms.out]; omega))]) hb1
      · have hR := hI.out
        rw [if_neg (by rw [← hms.out]; omega)] at hR
        have HR := Lib.hid hR
        clear hR
        obtain ⟨m, rfl⟩ : ∃ m : Nat, n = m := ⟨n.toNat, by omega⟩
        go_wp2
        go_region
        all_goals go_wp2
        all_goals go_ret3
        all_goals exact spost_some HR.out (by repeat (first | exact hb1 | apply Below.drew))

end Go.Proofs.YtemldlhhlneleaaDoor.Wi

