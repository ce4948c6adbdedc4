/-
  The program's readQuoted.
-/
import Derived.Test.YtmpgbdibagnanaaDoorLexD
namespace Go.Proofs.YtmpgbdibagnanaaDoor
open Go.RowKit

/-- a new token -/
def tok0 (w : World) : World := w.alloc (.cells #[.int .i64 0, .string ⟨#[]⟩, .int .i64 0, .int .i64 0] 25)

def RqRel (s : ByteArray) (w : World) (i v c : Value) (wr : World) : Prop := ∃ (k : Nat) (bs : List UInt8), 1 ≤ k ∧ k ≤ s.size ∧ i = .int .i64 k ∧ c = .bool false ∧ bs.length ≤ k ∧ OwnB wr (w.heap.size + 1) v bs ∧ Below (w.heap.size + 1) (tok0 w) wr ∧
  Lx.unq (s.data.toList.drop 1) = (Lx.unq (s.data.toList.drop k)).map fun p => (bs ++ p.1, p.2)

theorem tok0_size (w : World) : (tok0 w).heap.size = w.heap.size + 1 := by simp [tok0]
theorem tok0_cells {w wr : World} (h : Below (w.heap.size + 1) (tok0 w) wr) :
    (∀ o, wr.cell? ⟨w.heap.size, o, none⟩ = (#[.int .i64 0, .string ⟨#[]⟩, .int .i64 0, .int .i64 0] : Array Value)[o]?) ∧ (∀ o, wr.frozen? ⟨w.heap.size, o, none⟩ = false) := by
  refine ⟨fun o => ?_, fun o => ?_⟩
  rotate_left
  · rw [h.frozen (p := ⟨w.heap.size, o, none⟩) (Nat.lt_succ_self _)]
    unfold tok0
    simp
  rw [h.cell (p := ⟨w.heap.size, o, none⟩) (Nat.lt_succ_self _)]
  unfold tok0
  rw [World.cell?_alloc_new]
theorem tok0_below {w wr : World} (h : Below (w.heap.size + 1) (tok0 w) wr) : Below w.heap.size w wr :=
  ((Below.refl w.heap.size w).alloc (Nat.le_refl _) _).trans (h.mono (Nat.le_succ _))

theorem qt_err {s : ByteArray} {h0 : 0 < s.size} (hq : s[0] = 34) (h : Lx.unq (s.data.toList.drop 1) = none) : Lx.tok s[0] (s.data.toList.drop (0 + 1)) = .error Lx.eQuote := by
  rw [Nat.zero_add, tok_quote hq, h]
theorem qt_bad {s : ByteArray} {h0 : 0 < s.size} (hq : s[0] = 34) {v rest : List UInt8} (h : Lx.unq (s.data.toList.drop 1) = some (v, rest)) (hv : Lx.okValue v = false) : Lx.tok s[0] (s.data.toList.drop (0 + 1)) = .error Lx.eQuote := by
  rw [Nat.zero_add, tok_quote hq, h]
  simp only
  rw [hv]; rfl
theorem qt_ok {s : ByteArray} {h0 : 0 < s.size} (hq : s[0] = 34) {v rest : List UInt8} (h : Lx.unq (s.data.toList.drop 1) = some (v, rest)) (hv : Lx.okValue v = true) : Lx.tok s[0] (s.data.toList.drop (0 + 1)) = .ok ((2, v, 0), rest) := by
  rw [Nat.zero_add, tok_quote hq, h]
  simp only
  rw [hv]; rfl

set_option maxHeartbeats 3200000 in
set_option maxRecDepth 100000 in
theorem readQuoted_x (s : ByteArray) (w : World) (hs : s.size ≤ 1099511627776) (h0 : 0 < s.size) (hq : s[0] = 34) :
    Calls Tryd.prog 40 #[.string s] w fun e w' => TPost s 0 h0 w e w' := by
  obtain ⟨i0, hi, hz0, hz1, hz2⟩ := info_parts info5
  have Hq := Lib.hid hq
  clear hq
  go_enter Tryd.func40, Tryd.ntmps40
  go_wp2_with fail
  go_step3
  go_wp2_with fail
  go_step3
  go_wp2_with fail
  go_loopw [3, 5, 6] (fun i v c wr => RqRel s w i v c wr) (fun i _ _ _ => s.size - (intOf i).toNat)
  case atStart => exact ⟨1, [], Nat.le_refl _, h0, rfl, rfl, Nat.zero_le _, own_nil _ _, Below.refl _ _, by rw [show (fun p : List UInt8 × List UInt8 => (([] : List UInt8) ++ p.1, p.2)) = fun p => p from rfl]; simp⟩
  case round =>
    obtain ⟨k, bs, hk1, hk, rfl, rfl, hbl, hown, hb, hu⟩ := hrel
    have Hu := Lib.hid hu
    clear hu
    obtain ⟨hc, hf⟩ := tok0_cells hb
    have hbw := tok0_below hb
    have hsz : w.heap.size + 1 ≤ wr.heap.size := by have := hb.size; rw [tok0_size] at this; exact this
    by_cases hlt : k < s.size
    · have hdc := Lib.hid (drop_cons s k hlt)
      by_cases h34 : (s[k].toNat : Int) = 34
      · have hu2 : Hid (Lx.unq (s.data.toList.drop 1) = some (bs, s.data.toList.drop (k + 1))) := by
          show _ = _
          rw [Hu.out, hdc.out, c34 h34, Lx.unq_quote]
          simp
        have hb1 : ((s[k].toNat : Int) == 34) = true := by simp [h34]
        have hconv := conv_own hown
        have hvs : (mk bs).size ≤ 1099511627776 := by rw [mk_size]; omega
        clear h34
        cases hv : Lx.okValue bs with
        | true =>
          have hfin := Lib.hid (qt_ok Hq.out hu2.out hv)
          have Hv := Lib.hid hv
          clear hv
          go_wp2_with fail
          refine (validValue_x (mk bs) _ hvs).mono ?_
          rintro e w1 ⟨rfl, rfl⟩
          rw [mk_toList, Hv.out]
          go_wp2_with fail
          exact bodyPost_ret (v := .tuple #[.agg #[.int .i64 2, .string (mk bs), .int .i64 0, .int .i64 0], .int .i64 ((k : Int) + 1), .int .i64 0]) (by simp [results, Tryd.results40, go_sem, hc]) rfl (tpost_ok hfin.out (by omega) (by repeat (first | exact hbw | refine Below.setCell ?_ (by simp) _)) _ _ _ _ rfl rfl rfl (by go_num))
        | false =>
          have hfin := Lib.hid (qt_bad Hq.out hu2.out hv)
          have Hv := Lib.hid hv
          clear hv
          go_wp2_with fail
          refine (validValue_x (mk bs) _ hvs).mono ?_
          rintro e w1 ⟨rfl, rfl⟩
          rw [mk_toList, Hv.out]
          go_wp2_with fail
          exact bodyPost_ret (v := .tuple #[.agg #[.int .i64 0, .string ⟨#[]⟩, .int .i64 0, .int .i64 0], .int .i64 0, .int .i64 21]) (by simp [results, Tryd.results40, go_sem, hc]) rfl (tpost_err hfin.out (by repeat (first | exact hbw | refine Below.setCell ?_ (by simp) _)) _ rfl)
      · have hb1 : ((s[k].toNat : Int) == 34) = false := by rw [beq_eq_false_iff_ne]; exact h34
        by_cases h92 : (s[k].toNat : Int) = 92
        · have hb2 : ((s[k].toNat : Int) == 92) = true := by simp [h92]
          by_cases hlt2 : k + 1 < s.size
          · have hdc2 := Lib.hid (drop_cons s (k + 1) hlt2)
            have hne : (((k : Int) + 1) == (s.size : Int)) = false := by rw [beq_eq_false_iff_ne]; omega
            cases he : isEsc s[k + 1] with
            | true =>
              have hu2 : Hid (Lx.unq (s.data.toList.drop 1) = (Lx.unq (s.data.toList.drop (k + 2))).map fun p => (bs ++ [s[k + 1]] ++ p.1, p.2)) := by
                show _ = _
                rw [Hu.out, hdc.out, c92 h92, hdc2.out, Lx.unq_esc (((isEsc_iff _).1 he).elim (fun h => .inl (c34 h)) (fun h => .inr (c92 h))), map_map]
                simp
              have He := Lib.hid he
              clear h34 h92 he
              go_wp2_with fail
              refine (lEsc_x s[k + 1] _).mono ?_
              rintro e w2 ⟨rfl, rfl⟩
              rw [He.out]
              go_wp2_with (at_builtin; refine wpList_append_own _ rfl (.tmp 38) (.tmp 40) 46 rfl (w.heap.size + 1) 5 i0 (.int .u8 0) 1 1 Tryd.underlying46 hi hz0 hz1 hz2 rfl (by decide) _ _ _ rfl (hown.alloc _) ⟨wr.heap.size, 0, none⟩ 1 1 [.int .u8 (s[k + 1].toNat : Int)] rfl rfl ?b1 ?b2 ?b3 ?b4 ?b5 ?_)
              case b1 => exact cell_one_new _ _ _
              case b2 => intro u hu; simp at hu; subst hu; rfl
              case b3 => unfold maxLen; omega
              case b4 => omega
              case b5 => simp; omega
              intro v3 w3 hown3 hgrow3 _
              have hb3 : Below (w.heap.size + 1) (tok0 w) w3 := (hb.alloc hsz _).grown hgrow3 (by simp; omega) (fun k hk => (hown.lt k hk).1)
              have ho3 : Hid (OwnB w3 (w.heap.size + 1) v3 (bs ++ [s[k + 1]])) := own_push _ hown3
              clear hown3 hgrow3 hc hf
              go_wp2_with fail
              go_roundw
              case rel => exact ⟨k + 2, bs ++ [s[k + 1]], by omega, by omega, by go_num, rfl, by simp; omega, ho3.out, hb3, hu2.out⟩
              case measure => simp [intOf]; omega
            | false =>
              have hfin : Hid (Lx.tok s[0] (s.data.toList.drop (0 + 1)) = .error Lx.eQuote) := by
                refine qt_err Hq.out ?_
                rw [Hu.out, hdc.out, c92 h92, hdc2.out, Lx.unq_bad (fun h => ?_)]
                · rfl
                · have : isEsc s[k + 1] = true := (isEsc_iff _).2 (h.elim (fun h => .inl (by rw [h]; rfl)) (fun h => .inr (by rw [h]; rfl)))
                  rw [this] at he; cases he
              have He := Lib.hid he
              clear h34 h92 he
              go_wp2_with fail
              refine (lEsc_x s[k + 1] _).mono ?_
              rintro e w2 ⟨rfl, rfl⟩
              rw [He.out]
              go_wp2_with fail
              exact bodyPost_ret (v := .tuple #[.agg #[.int .i64 0, .string ⟨#[]⟩, .int .i64 0, .int .i64 0], .int .i64 0, .int .i64 21]) (by simp [results, Tryd.results40, go_sem, hc]) rfl (tpost_err hfin.out (by repeat (first | exact hbw | refine Below.setCell ?_ (by simp) _)) _ rfl)
          · have hfin : Hid (Lx.tok s[0] (s.data.toList.drop (0 + 1)) = .error Lx.eQuote) := by
              refine qt_err Hq.out ?_
              rw [Hu.out, hdc.out, c92 h92, show k + 1 = s.size from by omega, drop_end, Lx.unq_last]
              rfl
            have hne : (((k : Int) + 1) == (s.size : Int)) = true := by rw [beq_iff_eq]; omega
            clear h34 h92
            go_wp2_with fail
            exact bodyPost_ret (v := .tuple #[.agg #[.int .i64 0, .string ⟨#[]⟩, .int .i64 0, .int .i64 0], .int .i64 0, .int .i64 21]) (by simp [results, Tryd.results40, go_sem, hc]) rfl (tpost_err hfin.out (by repeat (first | exact hbw | refine Below.setCell ?_ (by simp) _)) _ rfl)
        · have hb2 : ((s[k].toNat : Int) == 92) = false := by rw [beq_eq_false_iff_ne]; exact h92
          have hu2 : Hid (Lx.unq (s.data.toList.drop 1) = (Lx.unq (s.data.toList.drop (k + 1))).map fun p => (bs ++ [s[k]] ++ p.1, p.2)) := by
            show _ = _
            rw [Hu.out, hdc.out, Lx.unq_plain (n34 h34) (n92 h92), map_map]
            simp
          clear h34 h92
          go_wp2_with (at_builtin; refine wpList_append_own _ rfl (.tmp 38) (.tmp 40) 46 rfl (w.heap.size + 1) 5 i0 (.int .u8 0) 1 1 Tryd.underlying46 hi hz0 hz1 hz2 rfl (by decide) _ _ _ rfl (hown.alloc _) ⟨wr.heap.size, 0, none⟩ 1 1 [.int .u8 (s[k].toNat : Int)] rfl rfl ?c1 ?c2 ?c3 ?c4 ?c5 ?_)
          case c1 => exact cell_one_new _ _ _
          case c2 => intro u hu; simp at hu; subst hu; rfl
          case c3 => unfold maxLen; omega
          case c4 => omega
          case c5 => simp; omega
          intro v3 w3 hown3 hgrow3 _
          have hb3 : Below (w.heap.size + 1) (tok0 w) w3 := (hb.alloc hsz _).grown hgrow3 (by simp; omega) (fun k hk => (hown.lt k hk).1)
          have ho3 : Hid (OwnB w3 (w.heap.size + 1) v3 (bs ++ [s[k]])) := own_push _ hown3
          clear hown3 hgrow3 hc hf
          go_wp2_with fail
          go_roundw
          case rel => exact ⟨k + 1, bs ++ [s[k]], by omega, by omega, by go_num, rfl, by simp; omega, ho3.out, hb3, hu2.out⟩
          case measure => simp [intOf]; omega
    · have hfin : Hid (Lx.tok s[0] (s.data.toList.drop (0 + 1)) = .error Lx.eQuote) := by
        refine qt_err Hq.out ?_
        rw [Hu.out, show k = s.size from by omega, drop_end, Lx.unq_nil]
        rfl
      go_wp2_with fail
      exact bodyPost_ret (v := .tuple #[.agg #[.int .i64 0, .string ⟨#[]⟩, .int .i64 0, .int .i64 0], .int .i64 0, .int .i64 21]) (by simp [results, Tryd.results40, go_sem, hc]) rfl (tpost_err hfin.out (by repeat (first | exact hbw | refine Below.setCell ?_ (by simp) _)) _ rfl)

end Go.Proofs.YtmpgbdibagnanaaDoor
