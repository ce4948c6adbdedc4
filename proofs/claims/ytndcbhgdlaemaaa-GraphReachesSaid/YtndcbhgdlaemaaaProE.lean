/-
  The library's Sort, Index and IndexFunc at what the program hands them.
-/
import Derived.Test.YtndcbhgdlaemaaaShelf
import Derived.Test.YtndcbhgdlaemaaaProD
import Derived.Sort.OwnSortedInts
namespace Go.Proofs.Ytndcbhgdlaemaaa
open Go.RowKit Gr Go.Sort

theorem sort_x (base : Nat) (v : Value) (l : List Int) (w : World) (h : w.ownsRow base 3 1 v l.length (ints l)) (hl : l.length ≤ 1099511627776) :
    Calls Try.prog 39 #[v] w fun e w' => e = .returned (.tuple #[]) ∧ w'.ownsRow base 3 1 v l.length (ints (srt l)) ∧ w.grownBy w' v.ownBlock := by
  rcases h.2 with ⟨rfl, hn⟩ | ⟨g, cap, cur, rfl, hg, hgg, h1, h2, h3, h4⟩
  · refine (Try.slices_Sort_int_none none 0 w).mono fun _ _ ⟨e1, e2⟩ => ⟨e1, ?_, e2 ▸ World.grownBy.refl _ _⟩
    rw [List.eq_nil_of_length_eq_zero hn, show srt [] = [] by simp [srt]]
    exact World.ownsRow_nil _ _ _ _
  · refine (Try.slices_Sort_int g 0 cap l w (holds_of_blockI hgg (by rw [Nat.mul_one] at h4; exact h4)) (Array.getElem?_eq_some_iff.1 hgg).1 (by omega)).mono ?_
    rintro e w' ⟨rfl, n, os, rfl⟩
    exact ⟨rfl, ownsRow_sortedI (n := n) (os := os) (srt_length l) hg hgg h1 h2 h3, grownBy_sortedI (w := w) (g := g) (n := n) (os := os) (srt l).toArray⟩

theorem getD_of {l : List Int} {i : Nat} {x : Int} (h : l[i]? = some x) : l.getD i 0 = x := by rw [List.getD_eq_getElem?_getD, h]; rfl
theorem index_x (g n cap : Nat) (l : List Int) (w : World) (h : Row w g (ints l)) (hn : n = l.length) (hl : l.length ≤ 1099511627776) :
    Calls Try.prog 27 #[.slice (some ⟨g, 0, none⟩) n cap, .int .i64 0] w fun e w' => w = w' ∧ ((∃ i : Nat, e = .returned (.int .i64 (i : Int)) ∧ l[i]? = some 0 ∧ ∀ (j : Nat) (y : Int), j < i → l[j]? = some y → y ≠ 0) ∨ (e = .returned (.int .i64 (-1)) ∧ ∀ (j : Nat) (y : Int), l[j]? = some y → y ≠ 0)) := by
  subst hn
  refine (Try.slices_Index_int g 0 l.length cap l 0 w (Nat.le_refl _) (by omega) (fun j hj => ?_)).mono ?_
  · have hg := List.getElem?_eq_getElem hj
    rw [Nat.zero_add, getD_of hg]
    exact h.c j _ (ints_at hg)
  · rintro e w' ⟨rfl, rfl⟩
    refine ⟨rfl, ?_⟩
    by_cases c : ∃ i : Nat, l[i]? = some 0
    · obtain ⟨i, hi, hmin⟩ := least_nat (fun i => l[i]? = some 0) c.choose c.choose_spec
      have hlt := (List.getElem?_eq_some_iff.1 hi).1
      refine .inl ⟨i, ?_, hi, fun j y hj hy e => ?_⟩
      · rw [Lib.idxOf_hit l l.length i 0 hlt (Nat.le_refl _) (getD_of hi) (fun j hj => ?_)]
        have hjl : j < l.length := by omega
        rw [getD_of (List.getElem?_eq_getElem hjl)]
        intro e
        have := hmin j (by rw [List.getElem?_eq_getElem hjl, e])
        omega
      · subst e
        have := hmin j hy
        omega
    · refine .inr ⟨?_, fun j y hy e => c ⟨j, by rw [hy, e]⟩⟩
      rw [Lib.idxOf_miss l l.length 0 (fun j hj => ?_)]
      rw [getD_of (List.getElem?_eq_getElem hj)]
      intro e
      exact c ⟨j, by rw [List.getElem?_eq_getElem hj, e]⟩

/-- the closure of shortestThrough -/
theorem pred_x {lo hi gp gs gq n b5 b12 : Nat} {near : Value} {w : World} {f : Int → Int} {q : List Int} {m : Int} (h : Sr lo hi gp gs gq n near w f q) (h5 : w.cell? ⟨b5, 0, none⟩ = some (.pointer (some ⟨gp, 0, none⟩)))
    (h12 : w.cell? ⟨b12, 0, none⟩ = some (.int .i64 m)) {v : Nat} (hv : v < n) :
    Calls Try.prog 38 #[.int .i64 (v : Int), .pointer (some ⟨b5, 0, none⟩), .pointer (some ⟨b12, 0, none⟩)] w fun r w' => r = .returned (.bool (f (v : Int) == m)) ∧ ∃ k, w' = w.drewN k := by
  have c1 := h.c1
  have r1 := h.row.c v _ (stp_get hv)
  have l1 := h.row.lt
  have l2 : gp < w.heap.size := Nat.lt_of_lt_of_le h.p1.2 h.hi1
  have v0 : (0 : Int) ≤ (v : Int) := by omega
  have v1 : (v : Int) < (n : Int) := by omega
  clear h
  obtain ⟨x, hx⟩ : ∃ x, f (v : Int) = x := ⟨_, rfl⟩
  rw [hx] at r1 ⊢
  clear hx
  go_enter Try.func38, Try.ntmps38
  go_wp2_with fail
  go_quiet (fail)
  go_wp2_with fail
  go_ret
  exact ⟨rfl, _, rfl⟩
def XRel (f : Int → Int) (m : Int) (l : List Int) (w : World) (i : Value) (wr : World) : Prop := ∃ k : Nat, k ≤ l.length ∧ i = .int .i64 (k : Int) ∧ (∀ j y, j < k → l[j]? = some y → f y ≠ m) ∧ ∃ q, wr = w.drewN q
theorem find_here {f : Int → Int} {m : Int} {l : List Int} {k : Nat} {y : Int} (hy : l[k]? = some y) (hm : f y = m) (hb : ∀ j y, j < k → l[j]? = some y → f y ≠ m) : l.find? (fun x => decide (f x = m)) = some y := by
  rw [List.find?_eq_some_iff_getElem]
  obtain ⟨h1, h2⟩ := List.getElem?_eq_some_iff.1 hy
  refine ⟨decide_eq_true hm, k, h1, h2, fun j hj => ?_⟩
  have hjl : j < l.length := by omega
  have := hb j _ hj (List.getElem?_eq_getElem hjl)
  simpa using this

set_option maxHeartbeats 3200000 in
theorem indexFunc_x {lo hi gp gs gq n b5 b12 lo2 hi2 : Nat} {near : Value} {w : World} {f : Int → Int} {q : List Int} {m x : Int} {v : Value} {l : List Int} (h : Sr lo hi gp gs gq n near w f q) (h5 : w.cell? ⟨b5, 0, none⟩ = some (.pointer (some ⟨gp, 0, none⟩)))
    (h12 : w.cell? ⟨b12, 0, none⟩ = some (.int .i64 m)) (hv : SIn lo2 hi2 w v (ints l)) (hn : ∀ y ∈ l, 0 ≤ y ∧ y < (n : Int)) (hl : l.length ≤ 1099511627776) (hx : l.find? (fun x => decide (f x = m)) = some x) :
    Calls Try.prog 37 #[v, .func (.func 38) #[] #[.pointer (some ⟨b5, 0, none⟩), .pointer (some ⟨b12, 0, none⟩)]] w fun r w' => ∃ i : Nat, r = .returned (.int .i64 (i : Int)) ∧ l[i]? = some x ∧ ∃ k, w' = w.drewN k := by
  have HS := Lib.hid h
  have HN := Lib.hid hn
  have HX := Lib.hid hx
  obtain ⟨a, cap, rfl, -, hc⟩ := hv
  rw [List.length_map]
  have HC := Lib.hid hc
  have H5 := Lib.hid h5
  have H12 := Lib.hid h12
  clear h hn hx hc h5 h12
  go_enter Try.func37, Try.ntmps37
  go_wp2_with fail
  go_loopw [8] (fun i wr => XRel f m l w i wr) (fun i _ => l.length - (intOf i).toNat)
  case atStart => exact ⟨0, Nat.zero_le _, rfl, fun j y hj => by omega, 0, rfl⟩
  case round =>
    obtain ⟨k, hk, rfl, hb, d, rfl⟩ := hrel
    have HB := Lib.hid hb
    have k0 : (0 : Int) ≤ (k : Int) := by omega
    clear hb
    by_cases c : k < l.length
    case neg =>
      exfalso
      obtain ⟨i, hi, hh, -⟩ := List.find?_eq_some_iff_getElem.1 HX.out |>.2
      have hm := of_decide_eq_true (List.find?_eq_some_iff_getElem.1 HX.out).1
      exact HB.out i x (by omega) (by rw [List.getElem?_eq_getElem hi, hh]) hm
    case pos =>
      have c0 : (k : Int) < (l.length : Int) := by omega
      obtain ⟨y', hy'⟩ : ∃ y, l[k]? = some y := ⟨_, List.getElem?_eq_getElem c⟩
      have yn := HN.out y' (List.mem_of_getElem? hy')
      obtain ⟨y, rfl⟩ := Int.eq_ofNat_of_zero_le yn.1
      have yN : y < n := by omega
      obtain ⟨b, off, rfl, -, t1, t2⟩ := HC.out k _ (ints_at hy')
      have HY := Lib.hid hy'
      clear hy' yn
      go_wp2_with fail
      refine (pred_x (HS.out.drewN d) H5.out H12.out yN).mono ?_
      rintro r w1 ⟨rfl, e, rfl⟩
      by_cases g : f (y : Int) = m
      case pos =>
        have g0 : (f (y : Int) == m) = true := by simpa using g
        have hv : (y : Int) = x := by
          have h1 := find_here HY.out g HB.out
          rw [HX.out] at h1
          simpa using h1.symm
        have HV := Lib.hid hv
        rw [g0]
        clear g g0 hv
        go_wp2_with fail
        go_ret
        exact ⟨k, rfl, by rw [← HV.out]; exact HY.out, _, rfl⟩
      case neg =>
        have g0 : (f (y : Int) == m) = false := by simpa using g
        have HG := Lib.hid g
        rw [g0]
        clear g g0
        go_wp2_with fail
        go_roundw
        case rel =>
          refine ⟨k + 1, by omega, by congr 1, fun j z hj hz => ?_, _, rfl⟩
          rcases Nat.lt_or_ge j k with h | h
          · exact HB.out j z h hz
          · obtain rfl : j = k := by omega
            rw [HY.out] at hz
            simp only [Option.some.injEq] at hz
            subst hz
            exact HG.out
        case measure => simp [intOf]; omega

end Go.Proofs.Ytndcbhgdlaemaaa
