/-
  The law LexBack's walk: what Print shows of a text's tokens has the same tokens again.
-/
import Derived.Test.YtmpgbdibagnanaaDoorLawA
namespace Go.Proofs.YtmpgbdibagnanaaDoor
open Go.RowKit

namespace Lx
def sumL (l : List Tok) : Nat := (l.map fun t => (shown t).length).sum
theorem esc_ge (v : List UInt8) : v.length ≤ (esc v).length := by
  induction v with
  | nil => simp
  | cons c r ih => rw [esc_cons]; split <;> simp <;> omega
theorem text_le (t : Tok) : t.text.length ≤ (shown t).length := by
  have := esc_ge t.text
  unfold shown
  split
  · simp [quoted]; omega
  · omega
theorem places_sum (s : List UInt8) : ∀ (l : List Tok) (a : Nat), Places s a l → l.length ≤ sumL l ∧ (l ≠ [] → a + sumL l ≤ s.length)
  | [], _, _ => ⟨by simp, fun h => absurd rfl h⟩
  | t :: l, a, h => by
    obtain ⟨h1, h2, h3, _, _, _, h7⟩ := h
    have ih := places_sum s l _ h7
    have e : sumL (t :: l) = (shown t).length + sumL l := by simp [sumL]
    rw [e, List.length_cons]
    refine ⟨by have := ih.1; omega, fun _ => ?_⟩
    by_cases hl : l = []
    · subst hl; simp only [sumL, List.map_nil, List.sum_nil]; omega
    · have := ih.2 hl; omega
theorem mem_sum {t : Tok} : ∀ {l : List Tok}, t ∈ l → (shown t).length ≤ sumL l
  | x :: l, h => by
    have e : sumL (x :: l) = (shown x).length + sumL l := by simp [sumL]
    rw [e]
    rcases List.mem_cons.1 h with rfl | h
    · omega
    · have := mem_sum h; omega
theorem print_len : ∀ l : List Tok, (print l).length ≤ sumL l + l.length
  | [] => by simp [print]
  | [t] => by simp [print, sumL]
  | t :: u :: l => by
    have ih := print_len (u :: l)
    have e : sumL (t :: u :: l) = (shown t).length + sumL (u :: l) := by simp [sumL]
    rw [e]
    simp only [print, List.length_append, List.length_cons] at ih ⊢
    omega
/-- the sizes of a text's tokens -/
theorem scan_sizes {s : List UInt8} {l : List Tok} (h : scan 0 false s = .ok l) : l.length ≤ s.length ∧ (∀ t ∈ l, (shown t).length ≤ s.length ∧ t.text.length ≤ s.length) ∧ (print l).length ≤ 2 * s.length := by
  have hs := places_sum s l 0 (places h)
  have hp := print_len l
  have hk : sumL l ≤ s.length := by
    by_cases hl : l = []
    · subst hl; simp [sumL]
    · have := hs.2 hl; omega
  refine ⟨by omega, fun t ht => ?_, by omega⟩
  have := mem_sum ht
  have := text_le t
  omega
theorem scanAll_short {s : List UInt8} (h : s.length ≤ 20000) : scanAll s = scan 0 false s := if_neg (by omega)
/-- what is shown of a text's tokens, and its tokens -/
theorem back {s : List UInt8} {l : List Tok} (hs : s.length ≤ 900) (h : scanAll s = .ok l) : ∃ m, scanAll (print l) = .ok m ∧ m.map strip = l.map strip ∧ print m = print l ∧ (∀ t ∈ l, t.text.length ≤ 1000) ∧ (∀ t ∈ m, t.text.length ≤ 1000) ∧ l.length ≤ 1000 ∧ m.length ≤ 1000 := by
  rw [scanAll_short (by omega)] at h
  obtain ⟨h1, h2, h3⟩ := scan_sizes h
  obtain ⟨m, e1, e2⟩ := scan_print l (scan_ok s.length s 0 false l (Nat.le_refl _) h) 0
  have hm : m.length = l.length := by rw [← List.length_map (f := strip), e2, List.length_map]
  refine ⟨m, by rw [scanAll_short (by omega)]; exact e1, e2, print_strip l m e2, fun t ht => by have := (h2 t ht).2; omega, fun t ht => ?_, by omega, by omega⟩
  have hmem : strip t ∈ l.map strip := e2 ▸ List.mem_map_of_mem ht
  obtain ⟨u, hu, e⟩ := List.mem_map.1 hmem
  simp only [strip, Prod.mk.injEq] at e
  have := (h2 u hu).2
  rw [← e.2.1]
  omega
end Lx

theorem strip_toI {m l : List Lx.Tok} (h : m.map Lx.strip = l.map Lx.strip) : (l.map toI).map stripI = (m.map toI).map stripI := by
  have e : ∀ x : List Lx.Tok, (x.map toI).map stripI = (x.map Lx.strip).map fun p => ((p.1 : Int), p.2.1, (p.2.2 : Int)) := by
    intro x
    rw [List.map_map, List.map_map]
    rfl
  rw [e, e, h]

theorem cut_len (s : List UInt8) : (s.take 900).length ≤ 900 := by rw [List.length_take]; omega

/-- Scan's answer at an error, and at none -/
theorem scan_bad {r : Except (Nat × Nat) (List Lx.Tok)} {w : World} {e : Ending} {w' : World} {p c : Nat} (h : ScanPost r w e w') (hr : r = .error (p, c)) : ∃ v, e = .returned (.tuple #[v, .int .i64 (p : Int), .int .i64 (c : Int)]) ∧ TAt w' v [] ∧ Below w.heap.size w w' := by
  subst hr
  exact h
theorem scan_good {r : Except (Nat × Nat) (List Lx.Tok)} {w : World} {e : Ending} {w' : World} {l : List Lx.Tok} (h : ScanPost r w e w') (hr : r = .ok l) : ∃ v, e = .returned (.tuple #[v, .int .i64 0, .int .i64 0]) ∧ TAt w' v (l.map toI) ∧ Below w.heap.size w w' := by
  subst hr
  exact h

theorem tat_none {w : World} {v : Value} (h : TAt w v []) : ∃ a cap, v = .slice a 0 cap := by
  obtain ⟨a, cap, rfl, _⟩ := h
  exact ⟨a, cap, rfl⟩

theorem err_not_zero {s : List UInt8} {p c : Nat} (h : Lx.scanAll s = .error (p, c)) : ¬ (c : Int) = 0 := by
  unfold Lx.scanAll at h
  split at h
  · injection h with h; injection h with _ h; subst h; decide
  · have := (Lx.scan_err s.length s 0 p c false (Nat.le_refl _) h).2.2.2.2
    simp only [Lx.eToken, Lx.eRange, Lx.eQuote] at this
    omega

set_option maxHeartbeats 3200000 in
set_option maxRecDepth 100000 in
theorem LexBack_x (h : LexOk) (s : ByteArray) (w : World) (hsg : Sg w) (hs : s.size ≤ 140737488351232) :
    Calls Tryd.prog 4 #[.string s] w fun e w' => e = .returned (.bool true) ∧ Below w.heap.size w w' := by
  have Hsg := Lib.hid hsg
  clear hsg
  have hcut := cut_len s.data.toList
  go_enter Tryd.func4, Tryd.ntmps4
  go_wp2_with fail
  refine (sane_x h _ Hsg.out).mono ?_
  rintro e w1 ⟨rfl, c1⟩
  go_wp2_with fail
  refine (cut_x s _ hs).mono ?_
  rintro e _ ⟨rfl, rfl⟩
  generalize hT : s.data.toList.take 900 = T at hcut ⊢
  go_wp2_with fail
  refine (h.scan (mk T) _ (sg_of Hsg.out (by first | assumption | exact Below.refl _ _)) (by rw [mk_size]; omega)).mono ?_
  intro e w2 hp
  rw [mk_toList] at hp
  cases hr : Lx.scanAll T with
  | error pc =>
    obtain ⟨p, c⟩ := pc
    obtain ⟨v, rfl, ht, hb⟩ := scan_bad hp hr
    obtain ⟨a, cap, rfl⟩ := tat_none ht
    have hne := int_ne' (err_not_zero hr)
    have c2 := chain c1 hb
    clear hp ht hb hr
    go_wp2_with fail
    go_ret
    exact ⟨rfl, c2⟩
  | ok l =>
    obtain ⟨v, rfl, ht, hb⟩ := scan_good hp hr
    obtain ⟨m, hm, hst, hpr, hl1, hm1, hl2, hm2⟩ := Lx.back hcut hr
    have Hm := Lib.hid hm1
    have Hst := Lib.hid hst
    have Hpr := Lib.hid hpr
    have c2 := chain c1 hb
    have hsz := (Lx.scan_sizes ((Lx.scanAll_short (by omega)).symm.trans hr)).2.2
    have Hl : Hid (∀ t ∈ l.map toI, t.text.length ≤ 1000) := Lib.hid fun t ht => by
      obtain ⟨u, hu, rfl⟩ := List.mem_map.1 ht
      exact hl1 u hu
    have Hm : Hid (∀ t ∈ m.map toI, t.text.length ≤ 1000) := Lib.hid fun t ht => by
      obtain ⟨u, hu, rfl⟩ := List.mem_map.1 ht
      exact hm1 u hu
    have Hmr := Lib.hid hm
    clear hl1 hm1 hst hpr hp hb hm hr c1
    go_wp2_with fail
    refine (h.print _ _ _ ht Hl.out (by rw [List.length_map]; exact hl2)).mono ?_
    rintro e w3 ⟨rfl, hb3⟩
    have c3 := chain c2 hb3
    have ht3 := ht.below hb3 (Nat.le_refl _)
    rw [printI_print]
    clear c2 ht hb3
    go_wp2_with fail
    refine (h.scan (mk (Lx.print l)) _ (sg_of Hsg.out (by first | assumption | exact Below.refl _ _)) (by rw [mk_size]; omega)).mono ?_
    intro e w4 hp
    rw [mk_toList] at hp
    obtain ⟨v4, rfl, ht4, hb4⟩ := scan_good hp Hmr.out
    have c4 := chain c3 hb4
    have hu4 := ht3.below hb4 (Nat.le_refl _)
    clear hp c3 hb4 ht3
    go_wp2_with fail
    refine (Like_x _ _ _ _ _ hu4 ht4 (by rw [List.length_map]; omega)).mono ?_
    rintro e w5 ⟨r, hr, rfl, hb5⟩
    obtain rfl : r = true := hr.2 (strip_toI Hst.out)
    have c5 := chain c4 hb5
    have ht5 := ht4.below hb5 (Nat.le_refl _)
    clear hb5 c4 hu4 ht4 hr
    go_wp2_with fail
    refine (h.print _ _ _ ht5 Hm.out (by rw [List.length_map]; exact hm2)).mono ?_
    rintro e w6 ⟨rfl, hb6⟩
    have c6 := chain c5 hb6
    rw [printI_print, Hpr.out]
    have hq := text_eq (rfl : Lx.print l = Lx.print l)
    go_wp2_with fail
    go_ret
    exact ⟨rfl, c6⟩

end Go.Proofs.YtmpgbdibagnanaaDoor
