/-
  The law LexTells' walk: what the reference returns.
-/
import Derived.Test.YtmpgbdibagnanaaDoorLawF
namespace Go.Proofs.YtmpgbdibagnanaaDoor
open Go.RowKit

theorem num_tuple (l : List UInt8) : ∃ (n : Int) (b : Bool), numOk l = .tuple #[.int .i64 n, .bool b] := ⟨_, _, rfl⟩
theorem list_eq {a b : ByteArray} (h : a = b) : (a.toList == b.toList) = true := by rw [h]; simp

set_option maxHeartbeats 6400000 in
set_option maxRecDepth 100000 in
theorem LexTells_x (h : LexOk) (s : ByteArray) (v : Value) (L : List TI) (w : World) (hsg : Sg w) (hs : s.size ≤ 140737488351232) (hL : TAt w v L) (hl : L.length ≤ 140737488351232) (hLs : ∀ t ∈ L, t.text.length ≤ 9223372036854775807) :
    Calls Tryd.prog 3 #[.string s, v] w fun e w' => e = .returned (.bool true) ∧ Below w.heap.size w w' := by
  have Hsg := Lib.hid hsg
  clear hsg
  have hcut := Lib.hid (cut_len s.data.toList)
  have HLs := Lib.hid hLs
  clear hLs
  go_enter Tryd.func3, Tryd.ntmps3
  go_wp2_with fail
  refine (sane_x h _ Hsg.out).mono ?_
  rintro e w1 ⟨rfl, c1⟩
  have L1 := hL.below c1 (Nat.le_refl _)
  obtain ⟨a1, k1, rfl, i1⟩ := id L1
  by_cases hbig : 100 < L.length
  · clear hL L1 i1
    go_wp2_with fail
    go_ret
    exact ⟨rfl, c1⟩
  · have HL1 := Lib.hid L1
    clear hL L1
    go_wp2_with fail
    go_loop [6] (fun i => ∃ k : Nat, k ≤ L.length ∧ i = .int .i64 k ∧ ∀ t ∈ L.take k, t.text.length ≤ 100) (fun i => L.length - (intOf i).toNat)
    case atStart => exact ⟨0, Nat.zero_le _, rfl, by simp⟩
    case round =>
      obtain ⟨k, hk, rfl, hts⟩ := hrel
      have Hts := Lib.hid hts
      clear hts
      by_cases hlt : k < L.length
      · have hx : L[k]? = some L[k] := List.getElem?_eq_getElem hlt
        obtain ⟨t, et⟩ : ∃ t, t = L[k] := ⟨_, rfl⟩
        rw [← et] at hx
        have hsz : (mk t.text).size ≤ 9223372036854775807 := HLs.out t (by rw [et]; exact List.getElem_mem hlt)
        obtain ⟨b, off, rfl, hbl, p0, p1, p2, p3⟩ := i1 k t hx
        have hn : Hid ((mk t.text).size ≤ 100 → ∀ u ∈ L.take (k + 1), u.text.length ≤ 100) := by
          intro ht u hu
          rw [List.take_add_one, hx] at hu
          rcases List.mem_append.1 hu with hu | hu
          · exact Hts.out u hu
          · simp only [Option.toList_some, List.mem_singleton] at hu
            subst hu
            exact ht
        clear i1 hx et p0 p2 p3
        by_cases h100 : 100 < (mk t.text).size
        · go_wp2_with fail
          go_ret
          exact ⟨rfl, c1⟩
        · go_wp2_with fail
          go_round
          case rel => exact ⟨k + 1, by omega, rfl, hn.out (by omega)⟩
          case measure => simp [intOf]; omega
      · have hall : Hid (∀ t ∈ L, t.text.length ≤ 100) := by
          have := Hts.out
          rw [List.take_of_length_le (by omega)] at this
          exact this
        clear Hts i1
        go_wp2_with fail
        refine (cut_x s _ hs).mono ?_
        rintro e _ ⟨rfl, rfl⟩
        generalize hT : s.data.toList.take 900 = T at hcut ⊢
        obtain ⟨t, et⟩ : ∃ t : ByteArray, t = mk T := ⟨_, rfl⟩
        have htT : t.data.toList = T := by rw [et]; rfl
        have hts : t.size ≤ 900 := by rw [et]; exact hcut.out
        rw [← et]
        subst htT
        clear et hT
        obtain ⟨R, hR⟩ : ∃ R, R = Lx.scan 0 false t.data.toList := ⟨_, rfl⟩
        have hRA : Lx.scanAll t.data.toList = R := (Lx.scanAll_short (by rw [← size_of]; omega)).trans hR.symm
        have hln : (tks R).length ≤ 900 := by
          cases hr : R with
          | error e => simp [tks]
          | ok l =>
            have := (Lx.scan_sizes (hR.symm.trans hr)).1
            rw [← size_of] at this
            show l.length ≤ _
            omega
        obtain ⟨P, hP⟩ : ∃ P : Nat, P = eP R := ⟨_, rfl⟩
        obtain ⟨E, hE⟩ : ∃ E : Nat, E = eE R := ⟨_, rfl⟩
        obtain ⟨K, hK⟩ : ∃ K, K = (tks R).map toI := ⟨_, rfl⟩
        have hKl : K.length ≤ 900 := by rw [hK, List.length_map]; exact hln
        have Hpost2 : Hid (∀ wa e wb, ScanPost (Lx.scanAll t.data.toList) wa e wb → ∃ v, e = .returned (.tuple #[v, .int .i64 (P : Int), .int .i64 (E : Int)]) ∧ TAt wb v K ∧ Below wa.heap.size wa wb) := by
          rintro wa e wb ⟨v, he, ht, hb⟩
          rw [hRA, ← hP, ← hE] at he
          rw [hRA, ← hK] at ht
          exact ⟨v, he, ht, hb⟩
        have Hpost3 : Hid (∀ wa e wb, ScPost (Lx.scan 0 false t.data.toList) wa e wb → ∃ v, e = .returned (.tuple #[v, .int .i64 (P : Int), .int .i64 (E : Int)]) ∧ TAt wb v K ∧ Below wa.heap.size wa wb) := by
          rintro wa e wb ⟨v, he, ho, hb⟩
          have ht := own_toks ho
          rw [← hR, ← hP, ← hE] at he
          rw [← hR, ← hK] at ht
          exact ⟨v, he, ht, hb⟩
        clear hR hRA hln hP hE hK
        go_wp2_with fail
        refine (h.scan t _ (sg_of Hsg.out (by first | assumption | exact Below.refl _ _)) (by omega)).mono ?_
        intro e w2 hp2
        obtain ⟨v2, rfl, t2, b2⟩ := Hpost2.out _ _ _ hp2
        have c2 := chain c1 b2
        have L2 := HL1.out.below b2 (Nat.le_refl _)
        clear b2 c1 HL1 hp2
        go_wp2_with fail
        refine (Scan_x t _ (by omega)).mono ?_
        intro e w3 hp3
        obtain ⟨v3, rfl, t3, b3⟩ := Hpost3.out _ _ _ hp3
        have u3 := t2.below b3 (Nat.le_refl _)
        have L3 := L2.below b3 (Nat.le_refl _)
        have c3 := chain c2 b3
        clear b3 t2 L2 c2 hp3
        obtain ⟨n, b, hnum⟩ := num_tuple t.data.toList
        go_wp2_with fail
        refine (h.number t _ (by omega)).mono ?_
        rintro e w4 ⟨he, b4⟩
        rw [hnum] at he
        subst he
        have t4 := t3.below b4 (Nat.le_refl _)
        have u4 := u3.below b4 (Nat.le_refl _)
        have L4 := L3.below b4 (Nat.le_refl _)
        have c4 := chain c3 b4
        clear b4 t3 u3 L3 c3
        go_wp2_with fail
        refine (Number_x t _ (by omega)).mono ?_
        rintro e _ ⟨he, rfl⟩
        rw [hnum] at he
        subst he
        clear hnum
        go_wp2_with fail
        refine (h.quote t _ (by omega)).mono ?_
        rintro e w5 ⟨he, b5⟩
        obtain ⟨q, hq⟩ : ∃ q : ByteArray × Bool, (if Lx.okValue t.data.toList then .tuple #[.string (mk (Lx.quoted t.data.toList)), .bool true] else .tuple #[.string ⟨#[]⟩, .bool false] : Value) = .tuple #[.string q.1, .bool q.2] := by
          split
          · exact ⟨(_, _), rfl⟩
          · exact ⟨(_, _), rfl⟩
        obtain ⟨q, qb⟩ := q
        rw [hq] at he
        subst he
        have t5 := t4.below b5 (Nat.le_refl _)
        have u5 := u4.below b5 (Nat.le_refl _)
        have L5 := L4.below b5 (Nat.le_refl _)
        have c5 := chain c4 b5
        clear b5 t4 u4 L4 c4
        go_wp2_with fail
        refine (Quote_x t _ (by omega)).mono ?_
        rintro e _ ⟨he, rfl⟩
        rw [hq] at he
        subst he
        clear hq
        go_wp2_with fail
        refine (Same_x _ _ _ _ _ u5 t5 (by omega)).mono ?_
        rintro e w6 ⟨r, hr, rfl, b6⟩
        obtain rfl : r = true := hr.2 rfl
        have L6 := L5.below b6 (Nat.le_refl _)
        have c6 := chain c5 b6
        clear b6 t5 u5 L5 c5 hr
        have hqq := list_eq (rfl : q = q)
        have hnn := int_eq (rfl : n = n)
        have hPP := int_eq (rfl : (P : Int) = P)
        have hEE := int_eq (rfl : (E : Int) = E)
        have hbb : (b == b) = true := by simp
        have hqb : (qb == qb) = true := by simp
        go_wp2_with fail
        refine (h.name t _ (by omega)).mono ?_
        rintro e w7 ⟨he, b7⟩
        have L7 := L6.below b7 (Nat.le_refl _)
        have c7 := chain c6 b7
        clear b7 L6 c6
        obtain ⟨nm, hnm⟩ : ∃ nm, nm = Lx.okName t.data.toList := ⟨_, rfl⟩
        rw [← hnm] at he
        subst he
        have Hnm := Lib.hid hnm
        clear hnm
        go_wp2_with fail
        refine (Name_x t _ (by omega)).mono ?_
        rintro e _ ⟨he, rfl⟩
        rw [← Hnm.out] at he
        subst he
        clear Hnm
        have hnmm : (nm == nm) = true := by simp
        go_wp2_with fail
        refine (h.print _ _ _ L7 (fun t ht => by have := hall.out t ht; omega) (by omega)).mono ?_
        rintro e w8 ⟨rfl, b8⟩
        have L8 := L7.below b8 (Nat.le_refl _)
        have c8 := chain c7 b8
        clear b8 L7 c7
        go_wp2_with fail
        refine (Print_x _ _ 100 _ L8 hall.out (by omega) (by omega)).mono ?_
        rintro e _ ⟨rfl, rfl⟩
        have hpp := list_eq (rfl : mk (printI L) = mk (printI L))
        clear L8
        go_wp2_with fail
        go_ret
        exact ⟨rfl, c8⟩

end Go.Proofs.YtmpgbdibagnanaaDoor
