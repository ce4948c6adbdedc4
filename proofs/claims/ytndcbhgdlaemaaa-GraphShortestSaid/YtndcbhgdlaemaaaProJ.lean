/-
  The program's Cycle.
-/
import Derived.Test.YtndcbhgdlaemaaaProI
namespace Go.Proofs.Ytndcbhgdlaemaaa
open Go.RowKit Gr

theorem best_congr {g g' : Nat → List Int} : ∀ {k : Nat}, (∀ u, u < k → g u = g' u) → best g k = best g' k
  | 0, _ => rfl
  | k + 1, h => by simp only [best]; rw [best_congr (k := k) (fun u hu => h u (by omega)), h k (by omega)]
/-- the best so far -/
structure BS (e : E) (lo hi gp gs gq n : Nat) (near : Value) (w4 : World) (k : Nat) (l : List Int) (vb : Value) (wr : World) : Prop where
  ex : ∃ g : Nat → List Int, (∀ u : Nat, u < k → Thr e (u : Int) (g u)) ∧ best g k = l
  len : l.length ≤ 1000
  at_ : SIn w4.heap.size wr.heap.size wr vb (ints l)
  nil : l = [] → vb = .slice none 0 0
  sr : ∃ f q, Sr lo hi gp gs gq n near wr f q
  keep : Keep lo hi w4 wr
theorem BS.step {e : E} {lo hi gp gs gq n k : Nat} {near : Value} {w4 wr w5 : World} {l l2 : List Int} {vb x : Value} (h : BS e lo hi gp gs gq n near w4 k l vb wr) (ht : ThS e (k : Int) lo hi gp gs gq n near wr l2 x w5) (hhi : hi ≤ w4.heap.size) :
    (better l2 l = true → BS e lo hi gp gs gq n near w4 (k + 1) l2 x w5) ∧ (better l2 l = false → BS e lo hi gp gs gq n near w4 (k + 1) l vb w5) := by
  obtain ⟨g, hg, hb⟩ := h.ex
  have hex : ∃ g' : Nat → List Int, (∀ u : Nat, u < k + 1 → Thr e (u : Int) (g' u)) ∧ best g' (k + 1) = if better l2 l = true then l2 else l := by
    refine ⟨fun u => if u = k then l2 else g u, fun u hu => ?_, ?_⟩
    · show Thr e (u : Int) (if u = k then l2 else g u)
      by_cases c : u = k
      · subst c
        rw [if_pos rfl]
        exact ht.thr
      · rw [if_neg c]
        exact hg u (by omega)
    · simp only [best]
      rw [if_pos trivial, best_congr (g' := g) (k := k) (fun u hu => if_neg (by omega)), hb]
  have hs := h.keep.size
  constructor
  · intro hbt
    rw [if_pos hbt] at hex
    exact ⟨hex, ht.len, ht.at_.mono hs (Nat.le_refl _), ht.nil, ht.sr, h.keep.trans ht.keep⟩
  · intro hbt
    rw [if_neg (by rw [hbt]; exact Bool.false_ne_true)] at hex
    exact ⟨hex, h.len, (h.at_.keep ht.keep (.inr hhi)).mono (Nat.le_refl _) ht.keep.size, h.nil, ht.sr, h.keep.trans ht.keep⟩
def BRel (e : E) (lo hi gp gs gq n : Nat) (near : Value) (w4 : World) (vb i : Value) (wr : World) : Prop := ∃ (k : Nat) (l : List Int), i = .int .i64 (k : Int) ∧ k ≤ n ∧ BS e lo hi gp gs gq n near w4 k l vb wr
theorem SIn.filled {lo hi : Nat} {w : World} {v : Value} {l : List Int} (h : SIn lo hi w v (ints l)) (hne : l ≠ []) : ∃ b off cap, v = .slice (some ⟨b, off, none⟩) l.length cap := by
  obtain ⟨a, cap, e, -, hc⟩ := h
  cases l with
  | nil => exact absurd rfl hne
  | cons y t =>
    obtain ⟨b, off, e1, -, -, -⟩ := hc 0 _ rfl
    exact ⟨b, off, cap, by rw [e, e1, List.length_map]⟩

set_option maxHeartbeats 12800000 in
set_option maxRecDepth 100000 in
theorem cycle_x (v : Value) (n : Int) (e : E) (w : World) (hat : EAt w v e) (hl : e.length ≤ 1099511627776) :
    Calls Try.prog 17 #[.int .i64 n, v] w fun r w' => ∃ x, r = .returned x ∧ SAt w' x (ints (cycle n e)) ∧ Below w.heap.size w w' := by
  have HAT := Lib.hid hat
  obtain ⟨ad, cap, rfl, -, -⟩ := id hat
  have HR := Lib.hid (isRight_x _ n e w hat (by omega))
  obtain ⟨rb, hrb⟩ : ∃ rb, rightB n e = rb := ⟨_, rfl⟩
  have RB := Lib.hid hrb
  cases rb with
  | false =>
    have hv := Lib.hid (cycle_wrong hrb)
    clear hrb hat
    rw [hv.out]
    go_enter Try.func17, Try.ntmps17
    go_wp2_with fail
    refine HR.out.mono ?_
    rintro r w1 ⟨rfl, b1⟩
    rw [RB.out]
    have B1 := Lib.hid b1
    clear b1
    go_wp2_with fail
    go_ret
    exact ⟨_, rfl, SAt.nil _, B1.out⟩
  | true =>
    obtain ⟨⟨n0, n300⟩, hel, hn⟩ := right_iff.1 hrb
    obtain ⟨N, rfl⟩ := Int.eq_ofNat_of_zero_le n0
    have N300 : N ≤ 300 := by omega
    have HN := Lib.hid hn
    clear hrb hat hn
    go_enter Try.func17, Try.ntmps17
    go_wp2_with fail
    refine HR.out.mono ?_
    rintro r w1 ⟨rfl, b1⟩
    rw [RB.out]
    have B1 := Lib.hid b1
    clear b1
    go_wp2_with fail
    refine (ahead_x _ N e w1 (HAT.out.below B1.out (Nat.le_refl _)) hel N300 HN.out).mono ?_
    rintro r w2 ⟨na, nc, rfl, h2, b2⟩
    have L2 := Lib.hid h2
    have B2 := Lib.hid (chain B1.out b2)
    clear h2 b2
    go_wp2_with fail
    refine (behind_x _ N e w2 (HAT.out.below B2.out (Nat.le_refl _)) hel N300 HN.out).mono ?_
    rintro r w3 ⟨ma, mc, rfl, h3, b3⟩
    have L3 := Lib.hid (L2.out.below b3)
    have M3 := Lib.hid h3
    have B3 := Lib.hid (chain B2.out b3)
    have Z23 : Hid (w2.heap.size ≤ w3.heap.size) := b3.size
    clear h3 b3 L2
    go_wp2_with fail
    refine (newSearch_x ma N mc w3 N300).mono ?_
    rintro r w4 ⟨gp, gs, gq, rfl, h4, b4⟩
    have L4 := Lib.hid (L3.out.below b4)
    have M4 := Lib.hid (M3.out.below b4)
    have B4 := Lib.hid (chain B3.out b4)
    have S4 : Hid (BS e w3.heap.size w4.heap.size gp gs gq N (.slice ma N mc) w4 0 [] (.slice none 0 0) w4) := ⟨⟨fun _ => [], fun u hu => absurd hu (Nat.not_lt_zero _), rfl⟩, by simp, SIn.nil _ _ _, fun _ => rfl, ⟨_, _, h4⟩, Keep.refl _ _ _⟩
    have Z34 : Hid (w3.heap.size ≤ w4.heap.size) := b4.size
    clear h4 b4 L3 M3
    go_wp2_with fail
    go_loopw [7, 22] (fun vb i wr => BRel e w3.heap.size w4.heap.size gp gs gq N (.slice ma N mc) w4 vb i wr) (fun _ i _ => N - (intOf i).toNat)
    case atStart => exact ⟨0, [], rfl, Nat.zero_le _, S4.out⟩
    case round =>
      clear S4
      obtain ⟨k, l, rfl, hk, hB⟩ := hrel
      have HB := Lib.hid hB
      have k0 : (0 : Int) ≤ (k : Int) := by omega
      have lb := hB.len
      clear hB
      obtain ⟨ba, bc, hvb, -, -⟩ := id HB.out.at_
      rw [List.length_map] at hvb
      subst hvb
      by_cases c : k < N
      case neg =>
        have c0 : ¬ (k : Int) < (N : Int) := by omega
        obtain rfl : k = N := by omega
        go_wp2_with fail
        go_ret
        obtain ⟨g, hg, hb⟩ := HB.out.ex
        refine ⟨_, rfl, ?_, B4.out.trans (HB.out.keep.below (B3.out.size) (B4.out.size))⟩
        rw [← best_cycle RB.out hg, hb]
        exact HB.out.at_.at_
      case pos =>
        have c0 : (k : Int) < (N : Int) := by omega
        obtain ⟨f, q, hS⟩ := HB.out.sr
        have HT := Lib.hid (through_x hS (M4.out.keep HB.out.keep (.inl (Nat.le_refl _))) (.inl (Nat.le_refl _)) (L4.out.keep HB.out.keep (.inl Z23.out)) (.inl Z23.out) HN.out N300 hel c)
        clear hS
        go_wp2_with fail
        refine HT.out.mono ?_
        rintro r w5 ⟨l2, x, rfl, hx⟩
        have HX := Lib.hid hx
        have l2b := hx.len
        obtain ⟨ST1, ST2⟩ := HB.out.step hx (Nat.le_refl _)
        have HS1 := Lib.hid ST1
        have HS2 := Lib.hid ST2
        clear hx ST1 ST2 HT
        by_cases d : l2 = []
        · have hx0 := HX.out.nil d
          subst hx0
          have hbt : Hid (better l2 l = false) := by show _ = _; rw [← Bool.not_eq_true, better_iff]; exact fun h => h.1 d
          clear d
          go_wp2_with fail
          go_roundw
          case rel => exact ⟨k + 1, l, by congr 1, by omega, HS2.out hbt.out⟩
          case measure => simp [intOf]; omega
        · obtain ⟨xb, xo, xc, rfl⟩ := HX.out.at_.filled d
          by_cases g : l = []
          · have hv0 := HB.out.nil g
            simp only [Value.slice.injEq] at hv0
            obtain ⟨rfl, -, rfl⟩ := hv0
            have hbt : Hid (better l2 l = true) := better_iff.2 ⟨d, .inl g⟩
            subst g
            have hq : (binOp BinOp.eql 25 (.slice none 0 0) (.slice none 0 0)).run Try.prog w5 = .ok (.bool true) w5 := Lib.run_eql_slice_nil w5 25 3 none 0 0 0 0 Try.underlying25
            clear d
            go_wp2_with fail
            go_roundw
            case rel => exact ⟨k + 1, l2, by congr 1, by omega, HS1.out hbt.out⟩
            case measure => simp [intOf]; omega
          · obtain ⟨yb, yo, yc, hv1⟩ := HB.out.at_.filled g
            simp only [Value.slice.injEq] at hv1
            obtain ⟨rfl, -, rfl⟩ := hv1
            have hq : (binOp BinOp.eql 25 (.slice (some ⟨yb, yo, none⟩) l.length bc) (.slice none 0 0)).run Try.prog w5 = .ok (.bool false) w5 := Lib.run_eql_slice_nil w5 25 3 (some ⟨yb, yo, none⟩) l.length bc 0 0 Try.underlying25
            by_cases t : l2.length < l.length
            · have hbt : Hid (better l2 l = true) := better_iff.2 ⟨d, .inr t⟩
              have t0 : (l2.length : Int) < (l.length : Int) := by omega
              clear d g
              go_wp2_with fail
              go_roundw
              case rel => exact ⟨k + 1, l2, by congr 1, by omega, HS1.out hbt.out⟩
              case measure => simp [intOf]; omega
            · have hbt : Hid (better l2 l = false) := by show _ = _; rw [← Bool.not_eq_true, better_iff]; exact fun h => h.2.elim g t
              have t0 : ¬ (l2.length : Int) < (l.length : Int) := by omega
              clear d g
              go_wp2_with fail
              go_roundw
              case rel => exact ⟨k + 1, l, by congr 1, by omega, HS2.out hbt.out⟩
              case measure => simp [intOf]; omega

end Go.Proofs.Ytndcbhgdlaemaaa
