/-
  The program's Print, Quote.
-/
import Derived.Test.YtmpgbdibagnanaaDoorLexG
namespace Go.Proofs.YtmpgbdibagnanaaDoor
open Go.RowKit

set_option maxHeartbeats 400000 in
theorem lQuote_x (s : ByteArray) (w : World) (hs : s.size ≤ 1099511627776) : Calls Tryd.prog 15 #[.string s] w fun e w' => e = .returned (if Lx.okValue s.data.toList then .tuple #[.string (mk (Lx.quoted s.data.toList)), .bool true] else .tuple #[.string ⟨#[]⟩, .bool false]) ∧ Below w.heap.size w w' := by
  cases hv : Lx.okValue s.data.toList with
  | true =>
    have Hv := Lib.hid hv
    clear hv
    go_enter Tryd.func15, Tryd.ntmps15
    go_wp2_with fail
    refine (validValue_x s _ hs).mono ?_
    rintro e w1 ⟨rfl, rfl⟩
    rw [Hv.out]
    go_wp2_with fail
    refine (appendQuoted_x w.heap.size _ [] s _ (Nat.le_refl _) (own_nil _ _) hs (by simp)).mono ?_
    rintro e w2 ⟨v2, rfl, ho2, hb2⟩
    have hconv := conv_own ho2
    rw [List.nil_append] at hconv
    go_wp2_with fail
    go_ret2
    exact ⟨rfl, hb2⟩
  | false =>
    have Hv := Lib.hid hv
    clear hv
    go_enter Tryd.func15, Tryd.ntmps15
    go_wp2_with fail
    refine (validValue_x s _ hs).mono ?_
    rintro e w1 ⟨rfl, rfl⟩
    rw [Hv.out]
    go_wp2_with fail
    go_ret2
    exact ⟨rfl, Below.refl _ _⟩

def PqRel (l : List TI) (M : Nat) (w : World) (b i : Value) (wr : World) : Prop := ∃ k : Nat, k ≤ l.length ∧ i = .int .i64 k ∧ OwnB wr w.heap.size b (printI (l.take k)) ∧ (printI (l.take k)).length ≤ k * (2 * M + 3) ∧ Below w.heap.size w wr

set_option maxHeartbeats 3200000 in
set_option maxRecDepth 100000 in
theorem lPrint_x (v : Value) (l : List TI) (M : Nat) (w : World) (hat : TAt w v l) (hM : ∀ t ∈ l, t.text.length ≤ M) (hM2 : M ≤ 100000) (hl : l.length ≤ 100000) :
    Calls Tryd.prog 20 #[v] w fun e w' => e = .returned (.string (mk (printI l))) ∧ Below w.heap.size w w' := by
  obtain ⟨i0, hi, hz0, hz1, hz2⟩ := info_parts info5
  obtain ⟨a, cap, rfl, hc⟩ := hat
  have Hc := Lib.hid hc
  clear hc
  go_enter Tryd.func20, Tryd.ntmps20
  go_wp2_with fail
  go_loopw [3, 8] (fun b i wr => PqRel l M w b i wr) (fun _ i _ => l.length - (intOf i).toNat)
  case atStart => exact ⟨0, Nat.zero_le _, rfl, own_nil _ _, by simp [printI, printF], Below.refl _ _⟩
  case round =>
    obtain ⟨k, hk, rfl, hown, hlen, hb⟩ := hrel
    have hwz : w.heap.size ≤ wr.heap.size := hb.size
    by_cases hlt : k < l.length
    · have hx : Hid (l[k]? = some l[k]) := List.getElem?_eq_getElem hlt
      obtain ⟨t, et⟩ : ∃ t, t = l[k] := ⟨_, rfl⟩
      rw [← et] at hx
      obtain ⟨bk, off, rfl, hbl, h0', h1', h2', h3'⟩ := Hc.out k t hx.out
      have h0 := (hb.cell (p := ⟨bk, off + k * 4, none⟩) hbl).trans h0'
      have h1 := (hb.cell (p := ⟨bk, off + k * 4 + 1, none⟩) hbl).trans h1'
      have h2 := (hb.cell (p := ⟨bk, off + k * 4 + 2, none⟩) hbl).trans h2'
      have h3 := (hb.cell (p := ⟨bk, off + k * 4 + 3, none⟩) hbl).trans h3'
      clear h0' h1' h2' h3'
      have htl := hM t (by rw [et]; simp)
      have hsl := shownI_len t
      have hts : Hid (l.take (k + 1) = l.take k ++ [t]) := by show _ = _; rw [List.take_add_one, hx.out]; rfl
      have hmul : (k + 1) * (2 * M + 3) = k * (2 * M + 3) + (2 * M + 3) := Nat.succ_mul _ _
      have hbig : k * (2 * M + 3) ≤ 100000 * 200003 := Nat.mul_le_mul (by omega) (by omega)
      have hms : (printI (l.take k)).length ≤ 20000300000 := by omega
      have htx : (mk t.text).size ≤ 100000 := by rw [mk_size]; omega
      have hlen' : Hid ((printI (l.take (k + 1))).length ≤ (k + 1) * (2 * M + 3)) := by
        show _ ≤ _
        rw [hts.out, printI_snoc, hmul]
        have hcase : ∀ (bb : Bool), ((if bb then [] else printI (l.take k) ++ [32]) ++ shownI t).length ≤ k * (2 * M + 3) + (2 * M + 3) := by
          intro bb
          cases bb
          · show ((printI (l.take k) ++ [32]) ++ shownI t).length ≤ _
            rw [List.length_append, List.length_append]
            have : ([32] : List UInt8).length = 1 := rfl
            omega
          · show (([] : List UInt8) ++ shownI t).length ≤ _
            rw [List.nil_append]
            omega
        exact hcase _
      have hr0 : Hid (k = 0 → printI (l.take k) ++ shownI t = printI (l.take (k + 1))) := by
        intro hk0
        rw [hts.out, printI_snoc, hk0, List.take_zero]
        rfl
      have hr1 : Hid (0 < k → printI (l.take k) ++ [32] ++ shownI t = printI (l.take (k + 1))) := by
        intro hk0
        rw [hts.out, printI_snoc]
        have : (l.take k).isEmpty = false := by
          rw [List.isEmpty_eq_false_iff]
          intro h
          have := congrArg List.length h
          rw [List.length_take, List.length_nil] at this
          omega
        rw [this]
        rfl
      clear et hx hmul hbig hsl hlen hM
      generalize hP : printI (l.take k) = P at hown hms hr0 hr1
      clear hP
      unfold OwnB at hown
      by_cases hkd : t.kind = 2
      · have hb2 : (t.kind == 2) = true := by simp [hkd]
        have hsh : Hid (shownI t = Lx.quoted t.text) := if_pos hkd
        clear hkd
        by_cases hk0 : 0 < k
        · have hR := Lib.hid (hr1.out hk0)
          clear hr1 hr0
          go_wp2_with (at_builtin; refine wpList_append_own _ rfl (.tmp 15) (.tmp 16) 46 rfl w.heap.size 5 i0 (.int .u8 0) 1 1 Tryd.underlying46 hi hz0 hz1 hz2 rfl (by decide) _ _ _ rfl ((hown.alloc _).alloc _) ⟨wr.heap.size + 1, 0, none⟩ 1 1 [.int .u8 32] rfl rfl ?b1 ?b2 ?b3 ?b4 ?b5 ?_)
          case b1 => exact cells_new (wr.alloc _) #[.int .u8 32] _ _ (by simp)
          case b2 => intro u hu; simp at hu; subst hu; rfl
          case b3 => unfold maxLen; omega
          case b4 => omega
          case b5 => first | omega | (simp; omega)
          intro v1 w1 hown1 hgrow1 _
          have hb1 : Below w.heap.size w w1 := ((hb.alloc hwz _).alloc (by simp; omega) _).grown hgrow1 (by simp; omega) (fun k hk => (hown.lt k hk).1)
          have hw1 : w.heap.size ≤ w1.heap.size := hb1.size
          have hrow : some wr.heap.size ≠ Value.ownBlock _ := fun h => Nat.lt_irrefl _ (hown.lt _ h.symm).2
          have hc0 : w1.cell? ⟨wr.heap.size, 0, none⟩ = some (.int .i64 t.kind) := hgrow1.cell (by simp) hrow
          have hc1 : w1.cell? ⟨wr.heap.size, 1, none⟩ = some (.string (mk t.text)) := hgrow1.cell (by simp) hrow
          have ho1 : Hid (OwnB w1 w.heap.size v1 (P ++ [32])) := own_push 32 hown1
          clear hgrow1 hrow
          go_wp2_with fail
          refine (appendQuoted_x w.heap.size _ (P ++ [32]) (mk t.text) _ hw1 ho1.out (by omega) (by simp; omega)).mono ?_
          rintro e w2 ⟨v2, rfl, ho2, hb2⟩
          have ho3 : Hid (OwnB w2 w.heap.size v2 (printI (l.take (k + 1)))) := by
            show OwnB _ _ _ _
            rw [← hR.out, hsh.out]
            exact ho2
          have hb3 : Below w.heap.size w w2 := hb1.trans hb2
          clear ho2 hb2 hc0 hc1
          go_wp2_with fail
          go_roundw
          case rel => exact ⟨k + 1, by omega, by go_num, ho3.out, hlen'.out, hb3⟩
          case measure => simp [intOf]; omega
        · have hR := Lib.hid (hr0.out (by omega))
          clear hr1 hr0
          go_wp2_with fail
          refine (appendQuoted_x w.heap.size _ P (mk t.text) _ (by simp; omega) (World.ownsRow.alloc hown _) (by omega) (by omega)).mono ?_
          rintro e w2 ⟨v2, rfl, ho2, hb2⟩
          have ho3 : Hid (OwnB w2 w.heap.size v2 (printI (l.take (k + 1)))) := by
            show OwnB _ _ _ _
            rw [← hR.out, hsh.out]
            exact ho2
          have hb3 : Below w.heap.size w w2 := (hb.alloc hwz _).trans hb2
          clear ho2 hb2
          go_wp2_with fail
          go_roundw
          case rel => exact ⟨k + 1, by omega, by go_num, ho3.out, hlen'.out, hb3⟩
          case measure => simp [intOf]; omega
      · have hb2 : (t.kind == 2) = false := by rw [beq_eq_false_iff_ne]; exact hkd
        have hsh : Hid (shownI t = t.text) := if_neg hkd
        clear hkd
        by_cases hk0 : 0 < k
        · have hR := Lib.hid (hr1.out hk0)
          clear hr1 hr0
          go_wp2_with (at_builtin; refine wpList_append_own _ rfl (.tmp 15) (.tmp 16) 46 rfl w.heap.size 5 i0 (.int .u8 0) 1 1 Tryd.underlying46 hi hz0 hz1 hz2 rfl (by decide) _ _ _ rfl ((hown.alloc _).alloc _) ⟨wr.heap.size + 1, 0, none⟩ 1 1 [.int .u8 32] rfl rfl ?b1 ?b2 ?b3 ?b4 ?b5 ?_)
          case b1 => exact cells_new (wr.alloc _) #[.int .u8 32] _ _ (by simp)
          case b2 => intro u hu; simp at hu; subst hu; rfl
          case b3 => unfold maxLen; omega
          case b4 => omega
          case b5 => first | omega | (simp; omega)
          intro v1 w1 hown1 hgrow1 _
          have hb1 : Below w.heap.size w w1 := ((hb.alloc hwz _).alloc (by simp; omega) _).grown hgrow1 (by simp; omega) (fun k hk => (hown.lt k hk).1)
          have hw1 : w.heap.size ≤ w1.heap.size := hb1.size
          have hrow : some wr.heap.size ≠ Value.ownBlock _ := fun h => Nat.lt_irrefl _ (hown.lt _ h.symm).2
          have hc0 : w1.cell? ⟨wr.heap.size, 0, none⟩ = some (.int .i64 t.kind) := hgrow1.cell (by simp) hrow
          have hc1 : w1.cell? ⟨wr.heap.size, 1, none⟩ = some (.string (mk t.text)) := hgrow1.cell (by simp) hrow
          have ho1 : Hid (OwnB w1 w.heap.size v1 (P ++ [32])) := own_push 32 hown1
          clear hgrow1 hrow
          go_wp2_with (at_builtin; refine Lib.wpList_append_own_string _ rfl (.tmp 25) (.tmp 27) 46 9 rfl w.heap.size 5 i0 Tryd.underlying46 Tryd.underlying9 hi hz0 hz1 hz2 _ _ _ rfl hown1 (mk t.text) rfl ?d1 ?d2 ?d3 ?_)
          case d1 => unfold maxLen; omega
          case d2 => omega
          case d3 => omega
          intro v2 w2 hown2 hgrow2 _
          have hb3 : Below w.heap.size w w2 := hb1.grown hgrow2 hw1 (fun k hk => (hown1.lt k hk).1)
          have ho3 : Hid (OwnB w2 w.heap.size v2 (printI (l.take (k + 1)))) := by
            have h1 : OwnB w2 w.heap.size v2 (P ++ [32] ++ (mk t.text).data.toList) := by
              apply own_str
              rw [bc_append, List.length_append, List.append_assoc]
              exact hown2
            show OwnB _ _ _ _
            rw [← hR.out, hsh.out]
            exact h1
          clear hown2 hgrow2 hc0 hc1
          go_wp2_with fail
          go_roundw
          case rel => exact ⟨k + 1, by omega, by go_num, ho3.out, hlen'.out, hb3⟩
          case measure => simp [intOf]; omega
        · have hR := Lib.hid (hr0.out (by omega))
          clear hr1 hr0
          go_wp2_with (at_builtin; refine Lib.wpList_append_own_string _ rfl (.tmp 25) (.tmp 27) 46 9 rfl w.heap.size 5 i0 Tryd.underlying46 Tryd.underlying9 hi hz0 hz1 hz2 _ _ _ rfl (World.ownsRow.alloc hown _) (mk t.text) rfl ?d1 ?d2 ?d3 ?_)
          case d1 => unfold maxLen; omega
          case d2 => omega
          case d3 => first | omega | (simp; omega)
          intro v2 w2 hown2 hgrow2 _
          have hb3 : Below w.heap.size w w2 := (hb.alloc hwz _).grown hgrow2 (by simp; omega) (fun k hk => (hown.lt k hk).1)
          have ho3 : Hid (OwnB w2 w.heap.size v2 (printI (l.take (k + 1)))) := by
            have h1 : OwnB w2 w.heap.size v2 (P ++ (mk t.text).data.toList) := own_str _ hown2
            show OwnB _ _ _ _
            rw [← hR.out, hsh.out]
            exact h1
          clear hown2 hgrow2
          go_wp2_with fail
          go_roundw
          case rel => exact ⟨k + 1, by omega, by go_num, ho3.out, hlen'.out, hb3⟩
          case measure => simp [intOf]; omega
    · have hk' : k = l.length := by omega
      have hfin : Hid (printI (l.take k) = printI l) := by show _ = _; rw [List.take_of_length_le (by omega)]
      have hconv := conv_own hown
      rw [hfin.out] at hconv
      go_wp2_with fail
      go_ret
      exact ⟨rfl, hb⟩

end Go.Proofs.YtmpgbdibagnanaaDoor
