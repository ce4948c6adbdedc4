/-
  The reference's Number, ReadString, ReadInts, ReadStrings.
-/
import Derived.Test.YtcoebgkkniggeaaRef3
namespace Go.Proofs.Ytcoebgkkniggeaa
open Go.RowKit

theorem isI_eq {s : ByteArray} {w : World} {e : Ending} {w' : World} (h : IPost s w e w') : e = .returned (tI (Wm.rdI s.data.toList)) ∧ Below w.heap.size w w' := h

/-- none, or a number that is not negative -/
def NPost (s : ByteArray) (w : World) (e : Ending) (w' : World) : Prop := Below w.heap.size w w' ∧
  ((e = .returned (.tuple #[.int .i64 0, .string ⟨#[]⟩, .bool false]) ∧ (Wm.rdI s.data.toList = none ∨ ∃ n r, Wm.rdI s.data.toList = some (n, r) ∧ n < 0)) ∨
   (∃ (n : Nat) (r : List UInt8), e = .returned (.tuple #[.int .i64 (n : Int), .string (mk r), .bool true]) ∧ Wm.rdI s.data.toList = some ((n : Int), r) ∧ n ≤ 9223372036854775807))

set_option maxHeartbeats 800000 in
theorem RNumber_x (s : ByteArray) (w : World) (hs : s.size ≤ 1099511627776) :
    Calls Try.prog 32 #[.string s] w fun e w' => NPost s w e w' := by
  go_enter Try.func32, Try.ntmps32
  go_wp2_with fail
  refine (RReadInt_x s _ hs).mono ?_
  rintro e w1 ⟨rfl, hb1⟩
  cases hz : Wm.rdI s.data.toList with
  | none =>
    have hZ := Lib.hid hz
    clear hz
    simp only [tI]
    go_wp2
    go_ret3
    exact ⟨hb1, .inl ⟨rfl, .inl hZ.out⟩⟩
  | some p =>
    obtain ⟨n, r⟩ := p
    have hn := (Wm.rdI_only _ _ _ hz).2
    obtain ⟨hn1, hn2⟩ := hn
    have hZ := Lib.hid hz
    clear hz
    simp only [tI]
    by_cases h0 : n < 0
    · go_wp2
      go_ret3
      exact ⟨hb1, .inl ⟨rfl, .inr ⟨n, r, hZ.out, by omega⟩⟩⟩
    · obtain ⟨m, rfl⟩ : ∃ m : Nat, n = m := ⟨n.toNat, by omega⟩
      go_wp2
      go_ret3
      exact ⟨hb1, .inr ⟨m, r, rfl, hZ.out, by omega⟩⟩

theorem s_of_none {l : List UInt8} (h : Wm.rdI l = none ∨ ∃ n r, Wm.rdI l = some (n, r) ∧ n < 0) : Wm.rdS l = none := by
  rcases h with h | ⟨n, r, h, hn⟩
  · exact s_none h
  · rw [s_some h, if_pos (.inl hn)]

set_option maxHeartbeats 800000 in
theorem RReadString_x (s : ByteArray) (w : World) (hs : s.size ≤ 1099511627776) :
    Calls Try.prog 20 #[.string s] w fun e w' => SPost s w e w' := by
  go_enter Try.func20, Try.ntmps20
  go_wp2_with fail
  refine (RNumber_x s _ hs).mono ?_
  rintro e w1 ⟨hb1, ⟨rfl, hz⟩ | ⟨n, r, rfl, hz, hn⟩⟩
  · have hI := Lib.hid (s_of_none hz)
    clear hz
    go_wp2
    go_ret3
    exact spost_none hI.out hb1
  · have hI := Lib.hid (s_some hz)
    have hms : Hid ((mk r).size = r.length) := rfl
    have hr := rdI_rest hz
    have hsl := size_of s
    have hrs : (mk r).size ≤ 1099511627776 := by rw [hms.out]; omega
    clear hz hr hsl
    by_cases h1 : ((mk r).size : Int) < n
    · go_wp2
      go_ret3
      exact spost_none (by rw [hI.out, if_pos (.inr (by rw [← hms.out]; omega))]) hb1
    · have hR := hI.out
      rw [if_neg (by rw [← hms.out]; omega)] at hR
      have HR := Lib.hid hR
      clear hR
      go_wp2
      go_region
      all_goals go_wp2
      all_goals go_ret3
      all_goals exact spost_some HR.out (by repeat (first | exact hb1 | apply Below.drew))

theorem rdN_few {α : Type} {rd : List UInt8 → Option (α × List UInt8)} (h : ∀ l x r, rd l = some (x, r) → r.length + 2 ≤ l.length) (k : Nat) : ∀ (l : List UInt8), l.length < 2 * k → Wm.rdN rd k l = none := by
  induction k with
  | zero => intro l hl; omega
  | succ k ih =>
    intro l hl
    rw [Wm.rdN]
    cases hr : rd l with
    | none => rfl
    | some p =>
      simp only [Option.bind_some]
      rw [ih p.2 (by have := h l p.1 p.2 hr; omega)]
      rfl

theorem l_of_none {α : Type} {rd : List UInt8 → Option (α × List UInt8)} {l : List UInt8} (h : Wm.rdI l = none ∨ ∃ n r, Wm.rdI l = some (n, r) ∧ n < 0) : Wm.rdL rd l = none := by
  rcases h with h | ⟨n, r, h, hn⟩
  · exact L_none h
  · exact L_neg h hn

theorem own_made (w : World) (E : TypeId) : (w.alloc (.cells #[] E)).ownsRow w.heap.size E 1 (.slice (some ⟨w.heap.size, 0, none⟩) 0 0) 0 [] :=
  World.ownsRow_made w #[] 0 (Nat.le_refl _) (by unfold maxLen; omega) rfl

theorem l_start' {α : Type} {E : TypeId} {val : α → Value} {rd : List UInt8 → Option (α × List UInt8)} {n size : Nat} {r0 : List UInt8} {w w1 : World} {v : Value} (hown : w1.ownsRow w.heap.size E 1 v 0 []) (hb : Below w.heap.size w w1) (hs : r0.length ≤ size) :
    LRel E val rd n size r0 w v (.string (mk r0)) (.int .i64 0) w1 :=
  ⟨0, [], r0, Nat.zero_le _, rfl, rfl, hown, hb, by simpa using hs, by simp⟩

theorem own_base {w : World} {B B' : Nat} {e : TypeId} {size n : Nat} {v : Value} {xs : List Value} (h : w.ownsRow B e size v n xs) (hB : B' ≤ B) : w.ownsRow B' e size v n xs := by
  refine ⟨h.1, ?_⟩
  rcases h.2 with h2 | ⟨g, cap, cur, hv, hg, r⟩
  · exact .inl h2
  · exact .inr ⟨g, cap, cur, hv, Nat.le_trans hB hg, r⟩

set_option maxHeartbeats 1600000 in
theorem RReadInts_x (s : ByteArray) (w : World) (hs : s.size ≤ 1099511627776) :
    Calls Try.prog 22 #[.string s] w fun e w' => LPost 3 (Value.int .i64) (Wm.rdL Wm.rdI s.data.toList) w e w' := by
  obtain ⟨i0, hi, hz0, hz1, hz2⟩ := info_parts info3
  go_enter Try.func22, Try.ntmps22
  go_wp2_with fail
  refine (RNumber_x s _ hs).mono ?_
  rintro e w1 ⟨hb1, ⟨rfl, hz⟩ | ⟨m, r0, rfl, hz, hn⟩⟩
  · have hI := Lib.hid (l_of_none (rd := Wm.rdI) hz)
    clear hz
    go_wp2
    go_ret3
    exact lpost_none hI.out hb1
  · have hI := Lib.hid (L_some (rd := Wm.rdI) hz)
    have hr0 := rdI_rest hz
    rw [← size_of] at hr0
    have hms0 : Hid ((mk r0).size = r0.length) := rfl
    have hrs : (mk r0).size ≤ 1099511627776 := by rw [hms0.out]; omega
    clear hz
    by_cases hf : ((mk r0).size : Int) / 2 < m
    · have hN := Lib.hid (rdN_few (rd := Wm.rdI) (fun l x r h => rdI_rest h) m r0 (by rw [← hms0.out]; omega))
      go_wp2
      go_ret3
      exact lpost_none (by rw [hI.out, hN.out]) hb1
    · have hw1 := hb1.size
      go_wp2_with fail
      go_loopw [8, 6, 9] (fun l rest i wr => LRel 3 (Value.int .i64) Wm.rdI m s.size r0 w l rest i wr) (fun _ _ i _ => m - (intOf i).toNat)
      case atStart => exact l_start' (own_base (own_made w1 3) hw1) (hb1.alloc hw1 _) (by omega)
      case round =>
        obtain ⟨k, acc, r, hk, rfl, rfl, hown, hb, hsz, hN⟩ := hrel
        have HN := Lib.hid hN
        clear hN
        have hms : Hid ((mk r).size = r.length) := rfl
        have hwz : w.heap.size ≤ wr.heap.size := hb.size
        by_cases hlt : k < m
        · go_wp2_with fail
          refine (RReadInt_x (mk r) _ (by rw [hms.out]; omega)).mono ?_
          rintro e w2 ⟨rfl, hb2⟩
          rw [mk_toList]
          have hown2 := below_own hown hb2 (Nat.le_refl _)
          have hbb : Below w.heap.size w w2 := hb.trans (hb2.mono hwz)
          have hwz2 : w.heap.size ≤ w2.heap.size := hbb.size
          cases hr : Wm.rdI r with
          | none =>
            have hN := Lib.hid (l_stop hlt HN.out hr)
            clear hr
            simp only [tI]
            go_wp2
            go_ret3
            exact lpost_none (by rw [hI.out, hN.out]) hbb
          | some p =>
            obtain ⟨x, r'⟩ := p
            have hl := rdI_rest hr
            have Hr := Lib.hid hr
            clear hr
            simp only [tI]
            go_wp2_with (at_builtin; refine wpList_append_own _ rfl (.tmp 42) (.tmp 44) 22 rfl w.heap.size 3 i0 (.int .i64 0) 1 8 Try.underlying22 hi hz0 hz1 hz2 rfl (by decide) _ _ _ rfl (hown2.alloc _) ⟨w2.heap.size, 0, none⟩ 1 1 [.int .i64 x] rfl rfl ?c1 ?c2 ?c3 ?c4 ?c5 ?_)
            case c1 => exact cell_one_new _ _ _
            case c2 => intro u hu; simp at hu; subst hu; rfl
            case c3 => unfold maxLen; omega
            case c4 => omega
            case c5 => simp; omega
            intro v3 w3 hown3 hgrow3 _
            have hb3 : Below w.heap.size w w3 := (hbb.alloc hwz2 _).grown hgrow3 (by simp; omega) (fun j hj => (hown2.lt j hj).1)
            go_wp2
            go_roundw
            case rel => exact l_step hlt hown3 hb3 hsz HN.out Hr.out hl
            case measure => simp [intOf]; omega
        · have hN := Lib.hid (l_done (by omega) HN.out)
          go_wp2
          go_ret3
          exact lpost_some (by rw [hI.out, hN.out]) hown hb

set_option maxHeartbeats 1600000 in
theorem RReadStrings_x (s : ByteArray) (w : World) (hs : s.size ≤ 1099511627776) :
    Calls Try.prog 25 #[.string s] w fun e w' => LPost 9 vS (Wm.rdL Wm.rdS s.data.toList) w e w' := by
  obtain ⟨i0, hi, hz0, hz1, hz2⟩ := info_parts info9
  go_enter Try.func25, Try.ntmps25
  go_wp2_with fail
  refine (RNumber_x s _ hs).mono ?_
  rintro e w1 ⟨hb1, ⟨rfl, hz⟩ | ⟨m, r0, rfl, hz, hn⟩⟩
  · have hI := Lib.hid (l_of_none (rd := Wm.rdS) hz)
    clear hz
    go_wp2
    go_ret3
    exact lpost_none hI.out hb1
  · have hI := Lib.hid (L_some (rd := Wm.rdS) hz)
    have hr0 := rdI_rest hz
    rw [← size_of] at hr0
    have hms0 : Hid ((mk r0).size = r0.length) := rfl
    have hrs : (mk r0).size ≤ 1099511627776 := by rw [hms0.out]; omega
    clear hz
    by_cases hf : ((mk r0).size : Int) / 2 < m
    · have hN := Lib.hid (rdN_few (rd := Wm.rdS) (fun l x r h => rdS_rest h) m r0 (by rw [← hms0.out]; omega))
      go_wp2
      go_ret3
      exact lpost_none (by rw [hI.out, hN.out]) hb1
    · have hw1 := hb1.size
      go_wp2_with fail
      go_loopw [8, 6, 9] (fun l rest i wr => LRel 9 vS Wm.rdS m s.size r0 w l rest i wr) (fun _ _ i _ => m - (intOf i).toNat)
      case atStart => exact l_start' (own_base (own_made w1 9) hw1) (hb1.alloc hw1 _) (by omega)
      case round =>
        obtain ⟨k, acc, r, hk, rfl, rfl, hown, hb, hsz, hN⟩ := hrel
        have HN := Lib.hid hN
        clear hN
        have hms : Hid ((mk r).size = r.length) := rfl
        have hwz : w.heap.size ≤ wr.heap.size := hb.size
        by_cases hlt : k < m
        · go_wp2_with fail
          refine (RReadString_x (mk r) _ (by rw [hms.out]; omega)).mono ?_
          rintro e w2 ⟨rfl, hb2⟩
          rw [mk_toList]
          have hown2 := below_own hown hb2 (Nat.le_refl _)
          have hbb : Below w.heap.size w w2 := hb.trans (hb2.mono hwz)
          have hwz2 : w.heap.size ≤ w2.heap.size := hbb.size
          cases hr : Wm.rdS r with
          | none =>
            have hN := Lib.hid (l_stop hlt HN.out hr)
            clear hr
            simp only [tS]
            go_wp2
            go_ret3
            exact lpost_none (by rw [hI.out, hN.out]) hbb
          | some p =>
            obtain ⟨x, r'⟩ := p
            have hl := rdS_rest hr
            have Hr := Lib.hid hr
            clear hr
            simp only [tS]
            go_wp2_with (at_builtin; refine wpList_append_own _ rfl (.tmp 42) (.tmp 44) 23 rfl w.heap.size 9 i0 (.string ⟨#[]⟩) 1 16 Try.underlying23 hi hz0 hz1 hz2 rfl (by decide) _ _ _ rfl (hown2.alloc _) ⟨w2.heap.size, 0, none⟩ 1 1 [.string (mk x)] rfl rfl ?c1 ?c2 ?c3 ?c4 ?c5 ?_)
            case c1 => exact cell_one_new _ _ _
            case c2 => intro u hu; simp at hu; subst hu; rfl
            case c3 => unfold maxLen; omega
            case c4 => omega
            case c5 => simp; omega
            intro v3 w3 hown3 hgrow3 _
            have hb3 : Below w.heap.size w w3 := (hbb.alloc hwz2 _).grown hgrow3 (by simp; omega) (fun j hj => (hown2.lt j hj).1)
            go_wp2
            go_roundw
            case rel => exact l_step hlt hown3 hb3 hsz HN.out Hr.out hl
            case measure => simp [intOf]; omega
        · have hN := Lib.hid (l_done (by omega) HN.out)
          go_wp2
          go_ret3
          exact lpost_some (by rw [hI.out, hN.out]) hown hb

end Go.Proofs.Ytcoebgkkniggeaa
