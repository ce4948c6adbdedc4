/-
  The law LexQuotes' walk: quoted strings, names and numbers as their only tokens.
-/
import Derived.Test.YtmpgbdibagnanaaDoorLawC
namespace Go.Proofs.YtmpgbdibagnanaaDoor
open Go.RowKit

namespace Lx
theorem quote_scans {s : List UInt8} (h : okValue s = true) : scanAll (quoted s) = .ok [⟨2, s, 0, 0⟩] := by
  have hl : s.length ≤ 400 := by
    simp only [okValue, Bool.and_eq_true, decide_eq_true_eq] at h
    exact h.2
  have he := esc_len s
  rw [scanAll_short (by simp only [quoted, List.length_cons, List.length_append, List.length_nil]; omega)]
  exact scan_quoted h
theorem name_scans {s : List UInt8} (hs : s.length ≤ 900) (h : okName s = true) : scanAll s = .ok [⟨0, s, 0, 0⟩] := by
  rw [scanAll_short (by omega)]
  exact scan_name h
theorem number_scans {s : List UInt8} (hs : s.length ≤ 900) (h : okNumber s = true) : scanAll s = .ok [⟨1, s, val s, 0⟩] := by
  rw [scanAll_short (by omega)]
  exact scan_number h
theorem name_short {s : List UInt8} (h : okName s = true) : s.length ≤ 20 := by
  cases s with
  | nil => simp [okName] at h
  | cons c r => simp only [okName, Bool.and_eq_true, decide_eq_true_eq] at h; exact h.2
theorem number_low {s : List UInt8} (h : okNumber s = true) : val s ≤ 1099511627776 := by
  simp only [okNumber, Bool.and_eq_true, decide_eq_true_eq] at h
  exact h.2
theorem bool_no {b : Bool} (h : b = true → False) : b = false := by cases b with
  | false => rfl
  | true => exact (h rfl).elim
/-- no single token: no name, no number -/
theorem nothing {s : List UInt8} (hs : s.length ≤ 900) (h : ∀ x, scanAll s ≠ .ok [x]) : okName s = false ∧ okNumber s = false :=
  ⟨bool_no fun e => h _ (name_scans hs e), bool_no fun e => h _ (number_scans hs e)⟩
theorem only_ok {s : List UInt8} (hs : s.length ≤ 900) {x : Tok} (h : scanAll s = .ok [x]) : ok1 x := by
  rw [scanAll_short (by omega)] at h
  exact scan_ok s.length s 0 false _ (Nat.le_refl _) h x (by simp)
/-- of a text that is no name: its only token is no name over all its bytes -/
theorem only_name {s : List UInt8} {x : Tok} (h : ok1 x) (hn : okName s = false) : x.kind = 0 → x.text ≠ s := by
  rintro hk rfl
  rcases h with ⟨_, h, _⟩ | ⟨h, _⟩ | ⟨h, _⟩ | ⟨h, _⟩
  · rw [h] at hn; cases hn
  all_goals rw [hk] at h; cases h
theorem only_number {s : List UInt8} {x : Tok} (h : ok1 x) (hn : okNumber s = false) : x.kind = 1 → x.text ≠ s := by
  rintro hk rfl
  rcases h with ⟨h, _⟩ | ⟨_, h, _⟩ | ⟨h, _⟩ | ⟨h, _⟩
  · rw [hk] at h; cases h
  · rw [h] at hn; cases hn
  all_goals rw [hk] at h; cases h
end Lx

theorem quote_post {T : List UInt8} {e : Ending} (h : e = .returned (if Lx.okValue T then .tuple #[.string (mk (Lx.quoted T)), .bool true] else .tuple #[.string ⟨#[]⟩, .bool false])) :
    ∃ q, e = .returned (.tuple #[.string q, .bool (Lx.okValue T)]) ∧ (Lx.okValue T = true → q = mk (Lx.quoted T)) ∧ (Lx.okValue T = false → q = ⟨#[]⟩) := by
  subst h
  cases hv : Lx.okValue T with
  | true => exact ⟨_, rfl, fun _ => rfl, fun h => by cases h⟩
  | false => exact ⟨_, rfl, (fun h => by cases h), fun _ => rfl⟩

theorem one_cells {w : World} {v : Value} {x : TI} (h : TAt w v [x]) : ∃ b o cap, v = .slice (some ⟨b, o, none⟩) 1 cap ∧ w.cell? ⟨b, o, none⟩ = some (.int .i64 x.kind) ∧ w.cell? ⟨b, o + 1, none⟩ = some (.string (mk x.text)) ∧ w.cell? ⟨b, o + 2, none⟩ = some (.int .i64 x.n) ∧ w.cell? ⟨b, o + 3, none⟩ = some (.int .i64 x.pos) := by
  obtain ⟨a, cap, rfl, h⟩ := h
  obtain ⟨b, o, rfl, _, h0, h1, h2, h3⟩ := h 0 x rfl
  exact ⟨b, o, cap, rfl, h0, h1, h2, h3⟩

set_option maxHeartbeats 6400000 in
set_option maxRecDepth 100000 in
theorem LexQuotes_x (h : LexOk) (s : ByteArray) (w : World) (hsg : Sg w) (hs : s.size ≤ 140737488351232) :
    Calls Tryd.prog 8 #[.string s] w fun e w' => e = .returned (.bool true) ∧ Below w.heap.size w w' := by
  have Hsg := Lib.hid hsg
  clear hsg
  have hcut := cut_len s.data.toList
  go_enter Tryd.func8, Tryd.ntmps8
  go_wp2_with fail
  refine (sane_x h _ Hsg.out).mono ?_
  rintro e w1 ⟨rfl, c1⟩
  go_wp2_with fail
  refine (cut_x s _ hs).mono ?_
  rintro e _ ⟨rfl, rfl⟩
  generalize hT : s.data.toList.take 900 = T at hcut ⊢
  obtain ⟨t, et⟩ : ∃ t : ByteArray, t = mk T := ⟨_, rfl⟩
  have htT : t.data.toList = T := by rw [et]; rfl
  have hts : t.size ≤ 900 := by rw [et]; exact hcut
  rw [← et]
  subst htT
  clear et hT
  have hcut' := Lib.hid hcut
  clear hcut
  go_wp2_with fail
  refine (h.quote t _ (by omega)).mono ?_
  rintro e w2 ⟨he, b2⟩
  obtain ⟨q, rfl, hq1, hq2⟩ := quote_post he
  have c2 := chain c1 b2
  clear he b2 c1
  have Hq1 := Lib.hid hq1
  have Hq2 := Lib.hid hq2
  clear hq1 hq2
  obtain ⟨ok, hok⟩ : ∃ ok, ok = Lx.okValue t.data.toList := ⟨_, rfl⟩
  rw [← hok] at Hq1 Hq2 ⊢
  have Hok : Hid (ok = ((t.data.toList.all Lx.isPlain) && decide (t.size ≤ 400))) := by
    show _ = _
    rw [hok, Lx.okValue, size_of]
  have Hok2 := Lib.hid hok
  clear hok
  go_wp2_with fail
  go_loop [7, 8] (fun p i => ∃ k : Nat, k ≤ t.size ∧ i = .int .i64 k ∧ p = .bool ((t.data.toList.take k).all Lx.isPlain && decide (t.size ≤ 400))) (fun _ i => t.size - (intOf i).toNat)
  case atStart => exact ⟨0, Nat.zero_le _, rfl, by simp; omega⟩
  case round =>
    obtain ⟨k, hk, rfl, rfl⟩ := hrel
    by_cases hlt : k < t.size
    · obtain ⟨p, hp⟩ : ∃ p, p = ((t.data.toList.take k).all Lx.isPlain && decide (t.size ≤ 400)) := ⟨_, rfl⟩
      have hn : Hid (((t.data.toList.take (k + 1)).all Lx.isPlain && decide (t.size ≤ 400)) = (p && Lx.isPlain t[k])) := by
        show _ = _
        rw [all_snoc _ t k hlt, hp, Bool.and_assoc, Bool.and_assoc, Bool.and_comm (Lx.isPlain t[k])]
      rw [← hp]
      have Hp := Lib.hid hp
      clear hp
      obtain ⟨hc1, hc2⟩ := byte_le t[k]
      cases p with
      | false =>
        go_wp2
        go_round
        case rel => exact ⟨k + 1, by omega, rfl, by rw [hn.out]; rfl⟩
        case measure => simp [intOf]; omega
      | true =>
        by_cases h1 : 32 ≤ (t[k].toNat : Int)
        · by_cases h2 : (t[k].toNat : Int) ≤ 126
          · have hpl := Lib.hid ((plain_iff _).2 ⟨h1, h2⟩)
            go_wp2
            go_round
            case rel => exact ⟨k + 1, by omega, rfl, by rw [hn.out, hpl.out]; simp⟩
            case measure => simp [intOf]; omega
          · have hpl := Lib.hid (plain_no (fun h => h2 h.2))
            go_wp2
            go_round
            case rel => exact ⟨k + 1, by omega, rfl, by rw [hn.out, hpl.out]; simp⟩
            case measure => simp [intOf]; omega
        · have hpl := Lib.hid (plain_no (fun h => h1 h.1))
          go_wp2
          go_round
          case rel => exact ⟨k + 1, by omega, rfl, by rw [hn.out, hpl.out]; simp⟩
          case measure => simp [intOf]; omega
    · rw [take_end t k (by omega), ← Hok.out]
      clear Hok
      cases ok with
      | false =>
        obtain rfl := Hq2.out rfl
        go_wp2_with fail
        refine (h.scan t _ (sg_of Hsg.out (by first | assumption | exact Below.refl _ _)) (by omega)).mono ?_
        intro e w8 hp8
        cases hr : Lx.scanAll t.data.toList with
        | error pc =>
          obtain ⟨p, c⟩ := pc
          obtain ⟨v8, rfl, t8, b8⟩ := scan_bad hp8 hr
          have c8 := chain c2 b8
          have hne := int_ne' (err_not_zero hr)
          obtain ⟨hn1, hn2⟩ := Lx.nothing hcut'.out (fun x => by rw [hr]; intro h; cases h)
          have Hn1 := Lib.hid hn1
          have Hn2 := Lib.hid hn2
          clear hp8 b8 c2 hr hn1 hn2
          go_wp2_with fail
          refine (h.number t _ (by omega)).mono ?_
          rintro e w9 ⟨rfl, b9⟩
          rw [numOk_no Hn2.out]
          have c9 := chain c8 b9
          clear c8 b9
          go_wp2_with fail
          refine (h.name t _ (by omega)).mono ?_
          rintro e w10 ⟨rfl, b10⟩
          rw [Hn1.out]
          have c10 := chain c9 b10
          clear c9 b10
          go_wp2_with fail
          go_ret
          exact ⟨rfl, c10⟩
        | ok l =>
          obtain ⟨v8, rfl, t8, b8⟩ := scan_good hp8 hr
          have c8 := chain c2 b8
          have Hr := Lib.hid hr
          clear hp8 b8 c2 hr
          have hll : l.length ≤ 900 := by
            have := (Lx.scan_sizes ((Lx.scanAll_short (by rw [← size_of]; omega)).symm.trans Hr.out)).1
            rw [← size_of] at this
            omega
          go_wp2_with fail
          refine (h.number t _ (by omega)).mono ?_
          rintro e w9 ⟨rfl, b9⟩
          have c9 := chain c8 b9
          have t9 := t8.below b9 (Nat.le_refl _)
          clear c8 b9 t8
          by_cases hone : l.length = 1
          · obtain ⟨x, rfl⟩ : ∃ x, l = [x] := List.length_eq_one_iff.1 hone
            clear hone hll
            have Hx := Lib.hid (Lx.only_ok hcut'.out Hr.out)
            cases hnm : Lx.okName t.data.toList with
            | true =>
              have e1 := (Lx.name_scans hcut'.out hnm).symm.trans Hr.out
              injection e1 with e1
              injection e1 with e1
              subst e1
              have hnum : Lx.okNumber t.data.toList = false := Lx.bool_no fun e => by
                have e2 := (Lx.number_scans hcut'.out e).symm.trans Hr.out
                injection e2 with e2
                injection e2 with e2
                injection e2 with e2
                cases e2
              have hsh : t.size ≤ 20 := by rw [size_of]; exact Lx.name_short hnm
              have Hnm := Lib.hid hnm
              rw [numOk_no hnum]
              clear hnm hnum
              go_wp2_with fail
              refine (h.name t _ (by omega)).mono ?_
              rintro e w10 ⟨rfl, b10⟩
              rw [Hnm.out]
              have c10 := chain c9 b10
              have t10 := t9.below b10 (Nat.le_refl _)
              clear c9 b10 t9
              obtain ⟨b1, o1, k10, rfl, q0, q1, q2, q3⟩ := one_cells t10
              have p0 : w10.cell? ⟨b1, o1, none⟩ = some (.int .i64 0) := q0
              have p1 : w10.cell? ⟨b1, o1 + 1, none⟩ = some (.string t) := q1
              have p2 : w10.cell? ⟨b1, o1 + 2, none⟩ = some (.int .i64 0) := q2
              have p3 : w10.cell? ⟨b1, o1 + 3, none⟩ = some (.int .i64 0) := q3
              clear t10 q0 q1 q2 q3
              go_wp2_with fail
              go_ret
              exact ⟨rfl, c10⟩
            | false =>
              cases hnu : Lx.okNumber t.data.toList with
              | true =>
                have e1 := (Lx.number_scans hcut'.out hnu).symm.trans Hr.out
                injection e1 with e1
                injection e1 with e1
                subst e1
                have hlow : ((Lx.val t.data.toList : Nat) : Int) ≤ 1099511627776 := by have := Lx.number_low hnu; omega
                rw [numOk_yes hnu]
                have Hnm := Lib.hid hnm
                clear hnm hnu
                go_wp2_with fail
                refine (h.name t _ (by omega)).mono ?_
                rintro e w10 ⟨rfl, b10⟩
                rw [Hnm.out]
                have c10 := chain c9 b10
                have t10 := t9.below b10 (Nat.le_refl _)
                clear c9 b10 t9
                obtain ⟨b1, o1, k10, rfl, q0, q1, q2, q3⟩ := one_cells t10
                have p0 : w10.cell? ⟨b1, o1, none⟩ = some (.int .i64 1) := q0
                have p1 : w10.cell? ⟨b1, o1 + 1, none⟩ = some (.string t) := q1
                have p2 : w10.cell? ⟨b1, o1 + 2, none⟩ = some (.int .i64 ((Lx.val t.data.toList : Nat) : Int)) := q2
                have p3 : w10.cell? ⟨b1, o1 + 3, none⟩ = some (.int .i64 0) := q3
                have g4 : (((Lx.val t.data.toList : Nat) : Int) == ((Lx.val t.data.toList : Nat) : Int)) = true := int_eq rfl
                clear t10 q0 q1 q2 q3
                go_wp2_with fail
                go_ret
                exact ⟨rfl, c10⟩
              | false =>
                have k0 : Hid (x.kind = 0 → ¬ x.text = t.data.toList) := Lx.only_name Hx.out hnm
                have k1 : Hid (x.kind = 1 → ¬ x.text = t.data.toList) := Lx.only_number Hx.out hnu
                rw [numOk_no hnu]
                have Hnm := Lib.hid hnm
                clear hnm hnu
                go_wp2_with fail
                refine (h.name t _ (by omega)).mono ?_
                rintro e w10 ⟨rfl, b10⟩
                rw [Hnm.out]
                have c10 := chain c9 b10
                have t10 := t9.below b10 (Nat.le_refl _)
                clear c9 b10 t9
                obtain ⟨b1, o1, k10, rfl, p0, p1, p2, p3⟩ := one_cells t10
                obtain ⟨kd, hkd⟩ : ∃ kd : Int, kd = (toI x).kind := ⟨_, rfl⟩
                obtain ⟨ps, hps⟩ : ∃ ps : Int, ps = (toI x).pos := ⟨_, rfl⟩
                obtain ⟨tx, htx⟩ : ∃ tx : ByteArray, tx = mk (toI x).text := ⟨_, rfl⟩
                rw [← hkd] at p0
                rw [← hps] at p3
                rw [← htx] at p1
                by_cases htt : x.text = t.data.toList
                · have hkd0 : ¬ kd = 0 := by rw [hkd]; intro h; exact k0.out (by show x.kind = 0; have h : (x.kind : Int) = 0 := h; omega) htt
                  have hkd1 : ¬ kd = 1 := by rw [hkd]; intro h; exact k1.out (by show x.kind = 1; have h : (x.kind : Int) = 1 := h; omega) htt
                  obtain rfl : tx = t := by rw [htx]; show mk x.text = _; rw [htt]; rfl
                  have f0 := int_ne hkd0
                  have f1 := int_ne hkd1
                  have h01 : ps = 0 ∨ ¬ ps = 0 := by omega
                  clear hkd hps htx htt t10 hkd0 hkd1
                  rcases h01 with hp0 | hp0
                  · have f2 := int_eq hp0
                    clear hp0
                    go_wp2_with fail
                    go_ret
                    exact ⟨rfl, c10⟩
                  · have f2 := int_ne hp0
                    clear hp0
                    go_wp2_with fail
                    go_ret
                    exact ⟨rfl, c10⟩
                · have f2 : (tx.toList == t.toList) = false := by
                    rw [beq_eq_false_iff_ne, htx]
                    intro h
                    apply htt
                    have h : (mk x.text).toList = (mk t.data.toList).toList := h
                    rw [toList_mk, toList_mk] at h
                    exact h
                  clear hkd hps htx htt t10
                  go_wp2_with fail
                  go_ret
                  exact ⟨rfl, c10⟩
          · obtain ⟨hn1, hn2⟩ := Lx.nothing hcut'.out (fun x => by rw [Hr.out]; intro h; injection h with h; rw [h] at hone; exact hone rfl)
            rw [numOk_no hn2]
            have Hn1 := Lib.hid hn1
            have hbn := int_ne' (show ¬ (l.length : Int) = 1 by omega)
            obtain ⟨a9, k9, rfl, _⟩ := t9
            rw [List.length_map]
            clear hn1 hn2 hone
            go_wp2_with fail
            refine (h.name t _ (by omega)).mono ?_
            rintro e w10 ⟨rfl, b10⟩
            rw [Hn1.out]
            have c10 := chain c9 b10
            clear c9 b10
            go_wp2_with fail
            go_ret
            exact ⟨rfl, c10⟩
      | true =>
        obtain rfl := Hq1.out rfl
        have hqs := Lib.hid (Lx.quote_scans Hok2.out.symm)
        go_wp2_with fail
        refine (h.scan (mk (Lx.quoted t.data.toList)) _ (sg_of Hsg.out (by first | assumption | exact Below.refl _ _)) (by have := esc_len t.data.toList; rw [← size_of] at this; rw [mk_size]; simp only [Lx.quoted, List.length_cons, List.length_append, List.length_nil]; omega)).mono ?_
        intro e w3 hp3
        rw [mk_toList] at hp3
        obtain ⟨v3, rfl, t3, b3⟩ := scan_good hp3 hqs.out
        have c3 := chain c2 b3
        clear hp3 b3 c2
        obtain ⟨b3, o3, k3, rfl, q0, q1, q2, q3⟩ := one_cells t3
        have r0 : w3.cell? ⟨b3, o3, none⟩ = some (.int .i64 2) := q0
        have r1 : w3.cell? ⟨b3, o3 + 1, none⟩ = some (.string t) := q1
        have r2 : w3.cell? ⟨b3, o3 + 2, none⟩ = some (.int .i64 0) := q2
        have r3 : w3.cell? ⟨b3, o3 + 3, none⟩ = some (.int .i64 0) := q3
        have g3 : b3 < w3.heap.size := World.block_lt_of_cell? w3 _ r0
        clear t3 q0 q1 q2 q3
        go_wp2_with fail
        refine (h.scan t _ (sg_of Hsg.out (by first | assumption | exact Below.refl _ _)) (by omega)).mono ?_
        intro e w8 hp8
        cases hr : Lx.scanAll t.data.toList with
        | error pc =>
          obtain ⟨p, c⟩ := pc
          obtain ⟨v8, rfl, t8, b8⟩ := scan_bad hp8 hr
          have c8 := chain c3 b8
          have hne := int_ne' (err_not_zero hr)
          obtain ⟨hn1, hn2⟩ := Lx.nothing hcut'.out (fun x => by rw [hr]; intro h; cases h)
          have Hn1 := Lib.hid hn1
          have Hn2 := Lib.hid hn2
          clear hp8 b8 c3 hr hn1 hn2
          go_wp2_with fail
          refine (h.number t _ (by omega)).mono ?_
          rintro e w9 ⟨rfl, b9⟩
          rw [numOk_no Hn2.out]
          have c9 := chain c8 b9
          clear c8 b9
          go_wp2_with fail
          refine (h.name t _ (by omega)).mono ?_
          rintro e w10 ⟨rfl, b10⟩
          rw [Hn1.out]
          have c10 := chain c9 b10
          clear c9 b10
          go_wp2_with fail
          go_ret
          exact ⟨rfl, c10⟩
        | ok l =>
          obtain ⟨v8, rfl, t8, b8⟩ := scan_good hp8 hr
          have c8 := chain c3 b8
          have Hr := Lib.hid hr
          clear hp8 b8 c3 hr
          have hll : l.length ≤ 900 := by
            have := (Lx.scan_sizes ((Lx.scanAll_short (by rw [← size_of]; omega)).symm.trans Hr.out)).1
            rw [← size_of] at this
            omega
          go_wp2_with fail
          refine (h.number t _ (by omega)).mono ?_
          rintro e w9 ⟨rfl, b9⟩
          have c9 := chain c8 b9
          have t9 := t8.below b9 (Nat.le_refl _)
          clear c8 b9 t8
          by_cases hone : l.length = 1
          · obtain ⟨x, rfl⟩ : ∃ x, l = [x] := List.length_eq_one_iff.1 hone
            clear hone hll
            have Hx := Lib.hid (Lx.only_ok hcut'.out Hr.out)
            cases hnm : Lx.okName t.data.toList with
            | true =>
              have e1 := (Lx.name_scans hcut'.out hnm).symm.trans Hr.out
              injection e1 with e1
              injection e1 with e1
              subst e1
              have hnum : Lx.okNumber t.data.toList = false := Lx.bool_no fun e => by
                have e2 := (Lx.number_scans hcut'.out e).symm.trans Hr.out
                injection e2 with e2
                injection e2 with e2
                injection e2 with e2
                cases e2
              have hsh : t.size ≤ 20 := by rw [size_of]; exact Lx.name_short hnm
              have Hnm := Lib.hid hnm
              rw [numOk_no hnum]
              clear hnm hnum
              go_wp2_with fail
              refine (h.name t _ (by omega)).mono ?_
              rintro e w10 ⟨rfl, b10⟩
              rw [Hnm.out]
              have c10 := chain c9 b10
              have t10 := t9.below b10 (Nat.le_refl _)
              clear c9 b10 t9
              obtain ⟨b1, o1, k10, rfl, q0, q1, q2, q3⟩ := one_cells t10
              have p0 : w10.cell? ⟨b1, o1, none⟩ = some (.int .i64 0) := q0
              have p1 : w10.cell? ⟨b1, o1 + 1, none⟩ = some (.string t) := q1
              have p2 : w10.cell? ⟨b1, o1 + 2, none⟩ = some (.int .i64 0) := q2
              have p3 : w10.cell? ⟨b1, o1 + 3, none⟩ = some (.int .i64 0) := q3
              clear t10 q0 q1 q2 q3
              go_wp2_with fail
              go_ret
              exact ⟨rfl, c10⟩
            | false =>
              cases hnu : Lx.okNumber t.data.toList with
              | true =>
                have e1 := (Lx.number_scans hcut'.out hnu).symm.trans Hr.out
                injection e1 with e1
                injection e1 with e1
                subst e1
                have hlow : ((Lx.val t.data.toList : Nat) : Int) ≤ 1099511627776 := by have := Lx.number_low hnu; omega
                rw [numOk_yes hnu]
                have Hnm := Lib.hid hnm
                clear hnm hnu
                go_wp2_with fail
                refine (h.name t _ (by omega)).mono ?_
                rintro e w10 ⟨rfl, b10⟩
                rw [Hnm.out]
                have c10 := chain c9 b10
                have t10 := t9.below b10 (Nat.le_refl _)
                clear c9 b10 t9
                obtain ⟨b1, o1, k10, rfl, q0, q1, q2, q3⟩ := one_cells t10
                have p0 : w10.cell? ⟨b1, o1, none⟩ = some (.int .i64 1) := q0
                have p1 : w10.cell? ⟨b1, o1 + 1, none⟩ = some (.string t) := q1
                have p2 : w10.cell? ⟨b1, o1 + 2, none⟩ = some (.int .i64 ((Lx.val t.data.toList : Nat) : Int)) := q2
                have p3 : w10.cell? ⟨b1, o1 + 3, none⟩ = some (.int .i64 0) := q3
                have g4 : (((Lx.val t.data.toList : Nat) : Int) == ((Lx.val t.data.toList : Nat) : Int)) = true := int_eq rfl
                clear t10 q0 q1 q2 q3
                go_wp2_with fail
                go_ret
                exact ⟨rfl, c10⟩
              | false =>
                have k0 : Hid (x.kind = 0 → ¬ x.text = t.data.toList) := Lx.only_name Hx.out hnm
                have k1 : Hid (x.kind = 1 → ¬ x.text = t.data.toList) := Lx.only_number Hx.out hnu
                rw [numOk_no hnu]
                have Hnm := Lib.hid hnm
                clear hnm hnu
                go_wp2_with fail
                refine (h.name t _ (by omega)).mono ?_
                rintro e w10 ⟨rfl, b10⟩
                rw [Hnm.out]
                have c10 := chain c9 b10
                have t10 := t9.below b10 (Nat.le_refl _)
                clear c9 b10 t9
                obtain ⟨b1, o1, k10, rfl, p0, p1, p2, p3⟩ := one_cells t10
                obtain ⟨kd, hkd⟩ : ∃ kd : Int, kd = (toI x).kind := ⟨_, rfl⟩
                obtain ⟨ps, hps⟩ : ∃ ps : Int, ps = (toI x).pos := ⟨_, rfl⟩
                obtain ⟨tx, htx⟩ : ∃ tx : ByteArray, tx = mk (toI x).text := ⟨_, rfl⟩
                rw [← hkd] at p0
                rw [← hps] at p3
                rw [← htx] at p1
                by_cases htt : x.text = t.data.toList
                · have hkd0 : ¬ kd = 0 := by rw [hkd]; intro h; exact k0.out (by show x.kind = 0; have h : (x.kind : Int) = 0 := h; omega) htt
                  have hkd1 : ¬ kd = 1 := by rw [hkd]; intro h; exact k1.out (by show x.kind = 1; have h : (x.kind : Int) = 1 := h; omega) htt
                  obtain rfl : tx = t := by rw [htx]; show mk x.text = _; rw [htt]; rfl
                  have f0 := int_ne hkd0
                  have f1 := int_ne hkd1
                  have h01 : ps = 0 ∨ ¬ ps = 0 := by omega
                  clear hkd hps htx htt t10 hkd0 hkd1
                  rcases h01 with hp0 | hp0
                  · have f2 := int_eq hp0
                    clear hp0
                    go_wp2_with fail
                    go_ret
                    exact ⟨rfl, c10⟩
                  · have f2 := int_ne hp0
                    clear hp0
                    go_wp2_with fail
                    go_ret
                    exact ⟨rfl, c10⟩
                · have f2 : (tx.toList == t.toList) = false := by
                    rw [beq_eq_false_iff_ne, htx]
                    intro h
                    apply htt
                    have h : (mk x.text).toList = (mk t.data.toList).toList := h
                    rw [toList_mk, toList_mk] at h
                    exact h
                  clear hkd hps htx htt t10
                  go_wp2_with fail
                  go_ret
                  exact ⟨rfl, c10⟩
          · obtain ⟨hn1, hn2⟩ := Lx.nothing hcut'.out (fun x => by rw [Hr.out]; intro h; injection h with h; rw [h] at hone; exact hone rfl)
            rw [numOk_no hn2]
            have Hn1 := Lib.hid hn1
            have hbn := int_ne' (show ¬ (l.length : Int) = 1 by omega)
            obtain ⟨a9, k9, rfl, _⟩ := t9
            rw [List.length_map]
            clear hn1 hn2 hone
            go_wp2_with fail
            refine (h.name t _ (by omega)).mono ?_
            rintro e w10 ⟨rfl, b10⟩
            rw [Hn1.out]
            have c10 := chain c9 b10
            clear c9 b10
            go_wp2_with fail
            go_ret
            exact ⟨rfl, c10⟩

end Go.Proofs.YtmpgbdibagnanaaDoor
