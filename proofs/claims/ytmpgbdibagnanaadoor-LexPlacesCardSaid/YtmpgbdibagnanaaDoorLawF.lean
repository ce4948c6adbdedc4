/-
  The law LexPlaces' walk: every token stands at its place, and nothing but blanks and comments elsewhere.
-/
import Derived.Test.YtmpgbdibagnanaaDoorLawE
namespace Go.Proofs.YtmpgbdibagnanaaDoor
open Go.RowKit

set_option maxHeartbeats 6400000 in
set_option maxRecDepth 100000 in
theorem LexPlaces_x (h : LexOk) (s : ByteArray) (w : World) (hsg : Sg w) (hs : s.size ≤ 140737488351232) :
    Calls Tryd.prog 5 #[.string s] w fun e w' => e = .returned (.bool true) ∧ Below w.heap.size w w' := by
  have Hsg := Lib.hid hsg
  clear hsg
  have hcut := cut_len s.data.toList
  go_enter Tryd.func5, Tryd.ntmps5
  go_wp2_with fail
  refine (sane_x h _ Hsg.out).mono ?_
  rintro e w1 ⟨rfl, c1⟩
  go_wp2_with fail
  refine (cut_x s _ hs).mono ?_
  rintro e _ ⟨rfl, rfl⟩
  generalize hT : s.data.toList.take 900 = T at hcut ⊢
  obtain ⟨t, et⟩ : ∃ t : ByteArray, t = mk T := ⟨_, rfl⟩
  have htT : t.data.toList = T := by rw [et]; rfl
  have hts : t.size ≤ 900 := by rw [et]; exact hcut
  rw [← et]
  subst htT
  clear et hT
  have hcut' := Lib.hid hcut
  clear hcut
  go_wp2_with fail
  refine (h.scan t _ (sg_of Hsg.out (by first | assumption | exact Below.refl _ _)) (by omega)).mono ?_
  intro e w2 hp2
  cases hr : Lx.scanAll t.data.toList with
  | error pc =>
    obtain ⟨p, c⟩ := pc
    obtain ⟨v2, rfl, t2, b2⟩ := scan_bad hp2 hr
    have c2 := chain c1 b2
    have hne := int_ne' (err_not_zero hr)
    have hpt := (Lx.err_parts hcut'.out hr).1
    rw [← size_of] at hpt
    clear hp2 b2 c1 hr t2
    go_wp2_with fail
    go_ret
    exact ⟨rfl, c2⟩
  | ok l =>
    obtain ⟨v2, rfl, t2, b2⟩ := scan_good hp2 hr
    have c2 := chain c1 b2
    have hpl := Lx.places ((Lx.scanAll_short (by rw [← size_of]; omega)).symm.trans hr)
    have hll : l.length ≤ 900 := by
      have := (Lx.scan_sizes ((Lx.scanAll_short (by rw [← size_of]; omega)).symm.trans hr)).1
      rw [← size_of] at this
      omega
    have Hpl := Lib.hid hpl
    clear hp2 b2 c1 hr hpl
    obtain ⟨a2, k2, rfl, i2⟩ := t2
    rw [List.length_map]
    go_wp2_with fail
    go_loopw [8, 9] (fun en i wr => ∃ k a : Nat, k ≤ l.length ∧ i = .int .i64 k ∧ en = .int .i64 a ∧ a ≤ t.size ∧ Lx.Places t.data.toList a (l.drop k) ∧ Below w.heap.size w wr ∧ Below w2.heap.size w2 wr) (fun _ i _ => l.length - (intOf i).toNat)
    case atStart => exact ⟨0, 0, Nat.zero_le _, rfl, rfl, Nat.zero_le _, by rw [List.drop_zero]; exact Hpl.out, c2, Below.refl _ _⟩
    case round =>
      obtain ⟨k, a, hk, rfl, rfl, hat, hp, c, d⟩ := hrel
      by_cases hlt : k < l.length
      · obtain ⟨x, ex⟩ : ∃ x, x = l[k] := ⟨_, rfl⟩
        rw [List.drop_eq_getElem_cons hlt, ← ex] at hp
        have hx : (l.map toI)[k]? = some (toI x) := by rw [List.getElem?_map, List.getElem?_eq_getElem hlt, ex]; rfl
        obtain ⟨b1, o1, rfl, hb1, q0, q1, q2, q3⟩ := i2 k _ hx
        have hr1 : ∀ o, wr.cell? ⟨b1, o, none⟩ = w2.cell? ⟨b1, o, none⟩ := fun o => d.cell (p := ⟨b1, o, none⟩) hb1
        rw [← hr1] at q0 q1 q2 q3
        have g1 : b1 < wr.heap.size := by have := d.size; omega
        obtain ⟨kd, tx, n, ps⟩ := x
        obtain ⟨h1, h2, h3, h4, h5, h6, h7⟩ := hp
        clear hr1 i2 hx ex
        rw [← size_of] at h3
        simp only at h1 h3 h4 h5 h6 h7
        have p0 : wr.cell? ⟨b1, o1 + k * 4, none⟩ = some (.int .i64 (kd : Int)) := q0
        have p1 : wr.cell? ⟨b1, o1 + k * 4 + 1, none⟩ = some (.string (mk tx)) := q1
        have p2 : wr.cell? ⟨b1, o1 + k * 4 + 2, none⟩ = some (.int .i64 (n : Int)) := q2
        have p3 : wr.cell? ⟨b1, o1 + k * 4 + 3, none⟩ = some (.int .i64 (ps : Int)) := q3
        clear q0 q1 q2 q3
        have hws : w.heap.size ≤ wr.heap.size := c.size
        have hws2 : w2.heap.size ≤ wr.heap.size := d.size
        have Hc := Lib.hid (fun o => (c.alloc hws o))
        have Hd := Lib.hid (fun o => (d.alloc hws2 o))
        have Hc0 := Lib.hid c
        have Hd0 := Lib.hid d
        have H7 := Lib.hid h7
        have hid : Hid (Lx.idle (t.extract a ps).data.toList = true) := by
          show _ = _
          rw [extract_mk, mk_toList]; exact h5
        have hfo : Hid (t.extract ps (ps + (Lx.shown ⟨kd, tx, n, ps⟩).length) = mk (Lx.shown ⟨kd, tx, n, ps⟩)) := by
          show _ = _
          rw [extract_mk, Nat.add_sub_cancel_left, h4]
        clear c d h7 h5 h4 hws hws2
        by_cases hkd : kd = 2
        · subst hkd
          have hn0 := h6 (by decide)
          subst hn0
          have hsh : Lx.shown ⟨2, tx, 0, ps⟩ = Lx.quoted tx := rfl
          rw [hsh] at h2 h3 H7 hfo
          have hsz : (mk (Lx.quoted tx)).size = (Lx.quoted tx).length := mk_size _
          have hf2 := text_eq (rfl : Lx.quoted tx = Lx.quoted tx)
          have hfo' : t.extract ps (ps + (mk (Lx.quoted tx)).size) = mk (Lx.quoted tx) := hfo.out
          have H7' : Hid (Lx.Places t.data.toList (ps + (mk (Lx.quoted tx)).size) (l.drop (k + 1))) := H7.out
          rw [← hsz] at h2 h3
          have htl : (mk tx).size ≤ 900 := by
            have := Lx.text_le ⟨2, tx, 0, ps⟩
            rw [hsh, ← hsz] at this
            rw [mk_size]
            simp only at this
            omega
          clear h6 hsh H7 hfo hsz
          go_wp2_with fail
          refine (Escaped_x (mk tx) _ (by omega)).mono ?_
          rintro e _ ⟨rfl, rfl⟩
          rw [mk_toList]
          go_wp2_with fail
          refine (Escaped_x (mk tx) _ (by omega)).mono ?_
          rintro e _ ⟨rfl, rfl⟩
          rw [mk_toList]
          go_wp2_with fail
          refine (idle_x (t.extract a ps) _ (by rw [ByteArray.size_extract]; omega)).mono ?_
          rintro e _ ⟨rfl, rfl⟩
          rw [hid.out]
          go_wp2
          go_roundw
          case rel => exact ⟨k + 1, ps + (mk (Lx.quoted tx)).size, by omega, rfl, by go_num, by omega, H7'.out, Hc.out _, Hd.out _⟩
          case measure => simp [intOf]; omega
        · have hbk := int_ne (show ¬ (kd : Int) = 2 by omega)
          have hsh : Lx.shown ⟨kd, tx, n, ps⟩ = tx := if_neg hkd
          rw [hsh] at h2 h3 H7 hfo
          have hsz : (mk tx).size = tx.length := mk_size _
          have hf2 := text_eq (rfl : tx = tx)
          have hfo' : t.extract ps (ps + (mk tx).size) = mk tx := hfo.out
          have H7' : Hid (Lx.Places t.data.toList (ps + (mk tx).size) (l.drop (k + 1))) := H7.out
          rw [← hsz] at h2 h3
          clear hsh H7 hfo hsz
          by_cases hk1 : kd = 1
          · subst hk1
            clear h6 hkd
            go_wp2_with fail
            refine (idle_x (t.extract a ps) _ (by rw [ByteArray.size_extract]; omega)).mono ?_
            rintro e _ ⟨rfl, rfl⟩
            rw [hid.out]
            go_wp2
            go_roundw
            case rel => exact ⟨k + 1, ps + (mk tx).size, by omega, rfl, by go_num, by omega, H7'.out, Hc.out _, Hd.out _⟩
            case measure => simp [intOf]; omega
          · have hn0 := h6 hk1
            subst hn0
            have hbk1 := int_ne (show ¬ (kd : Int) = 1 by omega)
            clear h6
            go_wp2_with fail
            refine (idle_x (t.extract a ps) _ (by rw [ByteArray.size_extract]; omega)).mono ?_
            rintro e _ ⟨rfl, rfl⟩
            rw [hid.out]
            go_wp2
            go_roundw
            case rel => exact ⟨k + 1, ps + (mk tx).size, by omega, rfl, by go_num, by omega, H7'.out, Hc.out _, Hd.out _⟩
            case measure => simp [intOf]; omega
      · have hke : k = l.length := by omega
        subst hke
        rw [List.drop_length] at hp
        have hid : Hid (Lx.idle (t.extract a t.size).data.toList = true) := by
          show _ = _
          rw [extract_mk, mk_toList, List.take_of_length_le (by rw [List.length_drop, size_of]; omega)]; exact hp
        have Hc0 := Lib.hid c
        clear hp c d
        go_wp2_with fail
        refine (idle_x (t.extract a t.size) _ (by rw [ByteArray.size_extract]; omega)).mono ?_
        rintro e _ ⟨rfl, rfl⟩
        rw [hid.out]
        go_wp2_with fail
        go_ret
        exact ⟨rfl, Hc0.out⟩

end Go.Proofs.YtmpgbdibagnanaaDoor
