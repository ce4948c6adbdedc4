/-
  The law LexErrors' walk: what comes before an error, what begins at it, and full texts.
-/
import Derived.Test.YtmpgbdibagnanaaDoorLawD
namespace Go.Proofs.YtmpgbdibagnanaaDoor
open Go.RowKit

def szOf : Value → Nat | .string s => s.size | _ => 0

namespace Lx
theorem fill_bad {x : List UInt8} {n : Nat} (hx : x.length ≤ 900) (hn : n = 20000 - (x.length + 1)) {p c : Nat} (h : scanAll x = .error (p, c)) : scanAll (x ++ 10 :: List.replicate n 32) = .error (p, c) := by
  rw [scanAll_short (by omega)] at h
  rw [scanAll_short (by rw [List.length_append, List.length_cons, List.length_replicate]; omega), scan_join x.length x _ 0 false (Nat.le_refl _), h]
theorem fill_good {x : List UInt8} {n : Nat} (hx : x.length ≤ 900) (hn : n = 20000 - (x.length + 1)) {l : List Tok} (h : scanAll x = .ok l) : scanAll (x ++ 10 :: List.replicate n 32) = .ok l := by
  rw [scanAll_short (by omega)] at h
  rw [scanAll_short (by rw [List.length_append, List.length_cons, List.length_replicate]; omega), scan_join x.length x _ 0 false (Nat.le_refl _), h]
  show (match scan _ false (List.replicate n 32) with | .error e => Except.error e | .ok b => Except.ok (l ++ b)) = _
  rw [scan_blanks]
  show Except.ok (l ++ []) = _
  rw [List.append_nil]
theorem fill_full {x : List UInt8} {n : Nat} (hx : x.length ≤ 900) (hn : n = 20001 - (x.length + 1)) : scanAll (x ++ 10 :: List.replicate n 32) = .error (0, 6) := by
  rw [scanAll, if_pos (by rw [List.length_append, List.length_cons, List.length_replicate]; omega)]
  rfl
/-- an error's place, and what lies before it and from it on -/
theorem err_parts {s : List UInt8} (hs : s.length ≤ 900) {p c : Nat} (h : scanAll s = .error (p, c)) : p < s.length ∧ (∃ l, scanAll (s.take p) = .ok l) ∧ scanAll (s.drop p) = .error (0, c) ∧ (c = 20 ∨ c = 3 ∨ c = 21) := by
  rw [scanAll_short (by omega)] at h
  obtain ⟨_, h2, ⟨l, h3⟩, h4, h5⟩ := scan_err s.length s 0 p c false (Nat.le_refl _) h
  rw [Nat.sub_zero] at h2 h3 h4
  refine ⟨h2, ⟨l, ?_⟩, ?_, h5⟩
  · rw [scanAll_short (by rw [List.length_take]; omega)]; exact h3
  · rw [scanAll_short (by rw [List.length_drop]; omega)]; exact h4 0
end Lx

theorem fill_list (t : ByteArray) (n k : Nat) (hk : k ≤ n) : (t ++ mk [10] ++ (mk (List.replicate n 32)).extract 0 k).data.toList = t.data.toList ++ 10 :: List.replicate k 32 := by
  have e : t = mk t.data.toList := rfl
  rw [extract_mk, mk_toList, List.drop_zero, Nat.sub_zero, List.take_replicate, Nat.min_eq_left hk]
  rw [e, mk_append, mk_append, mk_toList, List.append_assoc]
  rfl
theorem rep_twice (n : Nat) : mk (List.replicate n 32) ++ mk (List.replicate n 32) = mk (List.replicate (n + n) 32) := by
  rw [mk_append, List.replicate_append_replicate]

set_option maxHeartbeats 6400000 in
set_option maxRecDepth 100000 in
theorem LexErrors_x (h : LexOk) (s : ByteArray) (full : Bool) (w : World) (hsg : Sg w) (hs : s.size ≤ 140737488351232) :
    Calls Tryd.prog 7 #[.string s, .bool full] w fun e w' => e = .returned (.bool true) ∧ Below w.heap.size w w' := by
  have Hsg := Lib.hid hsg
  clear hsg
  have hcut := cut_len s.data.toList
  go_enter Tryd.func7, Tryd.ntmps7
  go_wp2_with fail
  refine (sane_x h _ Hsg.out).mono ?_
  rintro e w1 ⟨rfl, c1⟩
  go_wp2_with fail
  refine (cut_x s _ hs).mono ?_
  rintro e _ ⟨rfl, rfl⟩
  generalize hT : s.data.toList.take 900 = T at hcut ⊢
  obtain ⟨t, et⟩ : ∃ t : ByteArray, t = mk T := ⟨_, rfl⟩
  have htT : t.data.toList = T := by rw [et]; rfl
  have hts : t.size ≤ 900 := by rw [et]; exact hcut
  rw [← et]
  subst htT
  clear et hT
  have hcut' := Lib.hid hcut
  clear hcut
  go_wp2_with fail
  refine (h.scan t _ (sg_of Hsg.out (by first | assumption | exact Below.refl _ _)) (by omega)).mono ?_
  intro e w2 hp2
  cases hr : Lx.scanAll t.data.toList with
  | error pc =>
    obtain ⟨p, c⟩ := pc
    obtain ⟨v2, rfl, t2, b2⟩ := scan_bad hp2 hr
    obtain ⟨a2, k2, rfl⟩ := tat_none t2
    have c2 := chain c1 b2
    have hne := int_ne (err_not_zero hr)
    have hr2 := Lx.err_parts hcut'.out hr
    have Hr := Lib.hid hr
    clear hp2 b2 c1 hr t2
    obtain ⟨hpt, ⟨l3, hl3⟩, hd4, hc⟩ := hr2
    rw [← size_of] at hpt
    have Hl3 : Hid (Lx.scanAll (t.extract 0 p).data.toList = .ok l3) := by
      show _ = _
      rw [extract_mk, mk_toList, List.drop_zero, Nat.sub_zero]; exact hl3
    have Hd4 : Hid (Lx.scanAll (t.extract p t.size).data.toList = .error (0, c)) := by
      show _ = _
      rw [extract_mk, mk_toList, size_of, List.take_of_length_le (by rw [List.length_drop]; omega)]; exact hd4
    have hz3 : (t.extract 0 p).size ≤ 900 := by rw [ByteArray.size_extract]; omega
    have hz4 : (t.extract p t.size).size ≤ 900 := by rw [ByteArray.size_extract]; omega
    clear hl3 hd4
    cases full with
    | false =>
      have qc := int_eq (rfl : (c : Int) = (c : Int))
      have q20 : c = 20 → ((c : Int) != 20) = false := fun h => int_eq' (by omega)
      have q3 : c = 3 → ((c : Int) != 20) = true ∧ ((c : Int) != 3) = false := fun h => ⟨int_ne' (by omega), int_eq' (by omega)⟩
      have q21 : c = 21 → ((c : Int) != 20) = true ∧ ((c : Int) != 3) = true ∧ ((c : Int) != 21) = false := fun h => ⟨int_ne' (by omega), int_ne' (by omega), int_eq' (by omega)⟩
      have qs : ((c : Int) != 20) = false ∨ (((c : Int) != 20) = true ∧ ((c : Int) != 3) = false) ∨ (((c : Int) != 20) = true ∧ ((c : Int) != 3) = true ∧ ((c : Int) != 21) = false) := by
        rcases hc with h | h | h
        · exact .inl (q20 h)
        · exact .inr (.inl (q3 h))
        · exact .inr (.inr (q21 h))
      clear q20 q3 q21 hc
      rcases qs with q1 | ⟨q1, q2⟩ | ⟨q1, q2, q3⟩
      all_goals go_wp2_with fail
      all_goals refine (h.scan (t.extract 0 p) _ (sg_of Hsg.out (by first | assumption | exact Below.refl _ _)) (by omega)).mono ?_
      all_goals (
        intro e wa hpa
        obtain ⟨va, rfl, ta, ba⟩ := scan_good hpa Hl3.out
        have ca := chain c2 ba
        clear hpa ba ta)
      all_goals go_wp2_with fail
      all_goals refine (h.scan (t.extract p t.size) _ (sg_of Hsg.out (by first | assumption | exact Below.refl _ _)) (by omega)).mono ?_
      all_goals (
        intro e wb hpb
        obtain ⟨vb, rfl, tb, bb⟩ := scan_bad hpb Hd4.out
        have cb := chain ca bb
        clear hpb bb tb ca)
      all_goals go_wp2_with fail
      all_goals go_ret
      all_goals exact ⟨rfl, cb⟩
    | true =>
      go_wp2_with fail
      go_loop [10] (fun f => ∃ n : Nat, f = .string (mk (List.replicate n 32)) ∧ 10 ≤ n ∧ n < 40000) (fun f => 20000 - szOf f)
      case atStart => exact ⟨10, rfl, by omega, by omega⟩
      case round =>
        obtain ⟨n, rfl, hn1, hn2⟩ := hrel
        have hsz : (mk (List.replicate n 32)).size = n := by rw [mk_size, List.length_replicate]
        by_cases hlt : n < 20000
        · have hnn := Lib.hid (rep_twice n)
          have hszz : (mk (List.replicate (n + n) 32)).size = n + n := by rw [mk_size, List.length_replicate]
          go_wp2
          go_round
          case rel => exact ⟨n + n, by rw [← hnn.out], by omega, by omega⟩
          case measure => rw [hnn.out]; simp only [szOf]; omega
        · go_wp2_with fail
          refine (h.scan _ _ (sg_of Hsg.out (by first | assumption | exact Below.refl _ _)) (by rw [ByteArray.size_append, ByteArray.size_append, ByteArray.size_extract]; show t.size + 1 + _ ≤ _; omega)).mono ?_
          intro e wc hpc
          rw [show (t ++ ⟨#[10]⟩ ++ (mk (List.replicate n 32)).extract 0 (19999 - t.size)).data.toList = _ from fill_list t n _ (by omega)] at hpc
          obtain ⟨vc, rfl, tc, bc⟩ := scan_bad hpc (Lx.fill_bad hcut'.out (by rw [← size_of]; omega) Hr.out)
          have cc := chain c2 bc
          clear hpc bc c2
          obtain ⟨ac, kc, rfl, _⟩ := tc
          go_wp2_with fail
          refine (h.scan _ _ (sg_of Hsg.out (by first | assumption | exact Below.refl _ _)) (by rw [ByteArray.size_append, ByteArray.size_append, ByteArray.size_extract]; show t.size + 1 + _ ≤ _; omega)).mono ?_
          intro e w6 hpd
          rw [show (t ++ ⟨#[10]⟩ ++ (mk (List.replicate n 32)).extract 0 (20000 - t.size)).data.toList = _ from fill_list t n _ (by omega)] at hpd
          obtain ⟨vd, rfl, td, bd⟩ := scan_bad hpd (Lx.fill_full hcut'.out (by rw [← size_of]; omega))
          have c6 := chain cc bd
          clear hpd bd cc td
          have qc := int_eq (rfl : (c : Int) = (c : Int))
          have q20 : c = 20 → ((c : Int) != 20) = false := fun h => int_eq' (by omega)
          have q3 : c = 3 → ((c : Int) != 20) = true ∧ ((c : Int) != 3) = false := fun h => ⟨int_ne' (by omega), int_eq' (by omega)⟩
          have q21 : c = 21 → ((c : Int) != 20) = true ∧ ((c : Int) != 3) = true ∧ ((c : Int) != 21) = false := fun h => ⟨int_ne' (by omega), int_ne' (by omega), int_eq' (by omega)⟩
          have qs : ((c : Int) != 20) = false ∨ (((c : Int) != 20) = true ∧ ((c : Int) != 3) = false) ∨ (((c : Int) != 20) = true ∧ ((c : Int) != 3) = true ∧ ((c : Int) != 21) = false) := by
            rcases hc with h | h | h
            · exact .inl (q20 h)
            · exact .inr (.inl (q3 h))
            · exact .inr (.inr (q21 h))
          clear q20 q3 q21 hc
          rcases qs with q1 | ⟨q1, q2⟩ | ⟨q1, q2, q3⟩
          all_goals go_wp2_with fail
          all_goals refine (h.scan (t.extract 0 p) _ (sg_of Hsg.out (by first | assumption | exact Below.refl _ _)) (by omega)).mono ?_
          all_goals (
            intro e wa hpa
            obtain ⟨va, rfl, ta, ba⟩ := scan_good hpa Hl3.out
            have ca := chain c6 ba
            clear hpa ba ta)
          all_goals go_wp2_with fail
          all_goals refine (h.scan (t.extract p t.size) _ (sg_of Hsg.out (by first | assumption | exact Below.refl _ _)) (by omega)).mono ?_
          all_goals (
            intro e wb hpb
            obtain ⟨vb, rfl, tb, bb⟩ := scan_bad hpb Hd4.out
            have cb := chain ca bb
            clear hpb bb tb ca)
          all_goals go_wp2_with fail
          all_goals go_ret
          all_goals exact ⟨rfl, cb⟩
  | ok l =>
    obtain ⟨v2, rfl, t2, b2⟩ := scan_good hp2 hr
    have c2 := chain c1 b2
    have Hr := Lib.hid hr
    have hll : l.length ≤ 900 := by
      have := (Lx.scan_sizes ((Lx.scanAll_short (by rw [← size_of]; omega)).symm.trans hr)).1
      rw [← size_of] at this
      omega
    clear hp2 b2 c1 hr
    obtain ⟨a2, k2, rfl, _⟩ := t2
    rw [List.length_map]
    cases full with
    | false =>
      go_wp2_with fail
      go_ret
      exact ⟨rfl, c2⟩
    | true =>
      go_wp2_with fail
      go_loop [10] (fun f => ∃ n : Nat, f = .string (mk (List.replicate n 32)) ∧ 10 ≤ n ∧ n < 40000) (fun f => 20000 - szOf f)
      case atStart => exact ⟨10, rfl, by omega, by omega⟩
      case round =>
        obtain ⟨n, rfl, hn1, hn2⟩ := hrel
        have hsz : (mk (List.replicate n 32)).size = n := by rw [mk_size, List.length_replicate]
        by_cases hlt : n < 20000
        · have hnn := Lib.hid (rep_twice n)
          have hszz : (mk (List.replicate (n + n) 32)).size = n + n := by rw [mk_size, List.length_replicate]
          go_wp2
          go_round
          case rel => exact ⟨n + n, by rw [← hnn.out], by omega, by omega⟩
          case measure => rw [hnn.out]; simp only [szOf]; omega
        · go_wp2_with fail
          refine (h.scan _ _ (sg_of Hsg.out (by first | assumption | exact Below.refl _ _)) (by rw [ByteArray.size_append, ByteArray.size_append, ByteArray.size_extract]; show t.size + 1 + _ ≤ _; omega)).mono ?_
          intro e wc hpc
          rw [show (t ++ ⟨#[10]⟩ ++ (mk (List.replicate n 32)).extract 0 (19999 - t.size)).data.toList = _ from fill_list t n _ (by omega)] at hpc
          obtain ⟨vc, rfl, tc, bc⟩ := scan_good hpc (Lx.fill_good hcut'.out (by rw [← size_of]; omega) Hr.out)
          have cc := chain c2 bc
          clear hpc bc c2
          obtain ⟨ac, kc, rfl, _⟩ := tc
          rw [List.length_map]
          go_wp2_with fail
          refine (h.scan _ _ (sg_of Hsg.out (by first | assumption | exact Below.refl _ _)) (by rw [ByteArray.size_append, ByteArray.size_append, ByteArray.size_extract]; show t.size + 1 + _ ≤ _; omega)).mono ?_
          intro e w6 hpd
          rw [show (t ++ ⟨#[10]⟩ ++ (mk (List.replicate n 32)).extract 0 (20000 - t.size)).data.toList = _ from fill_list t n _ (by omega)] at hpd
          obtain ⟨vd, rfl, td, bd⟩ := scan_bad hpd (Lx.fill_full hcut'.out (by rw [← size_of]; omega))
          have c6 := chain cc bd
          clear hpd bd cc td
          have qq := int_eq' (rfl : (l.length : Int) = (l.length : Int))
          go_wp2_with fail
          go_ret
          exact ⟨rfl, c6⟩

end Go.Proofs.YtmpgbdibagnanaaDoor
