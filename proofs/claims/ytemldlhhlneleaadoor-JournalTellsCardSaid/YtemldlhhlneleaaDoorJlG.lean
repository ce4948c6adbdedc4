/-
  JournalCrash, plain: what is there after the power failed.
-/
import Derived.Test.YtemldlhhlneleaaDoorJlF
namespace Go.Proofs.YtemldlhhlneleaaDoor.Jn
open Go.RowKit Dk Wi

/-- a disk that is up, with a list, and what may be armed -/
abbrev ds (secs : List B) (left : Int) (down : Bool) : D := ⟨secs, [], left, down⟩
theorem Fil.arm {n : Nat} {l : List S} {d : D} (h : Fil n l d) {k : Nat} (hk : k ≤ 512) : armV d (k : Int) = (ds d.secs (k : Int) false, 0) ∧ allV (ds d.secs (k : Int) false) = (l, 0) := by
  obtain ⟨hc, hd, hp⟩ := h.check
  have c1 := check_arm hc hd (n := (k : Int)) (by omega)
  rw [hp, hd] at c1
  refine ⟨?_, allV_ok.2 ⟨⟨c1, rfl, rfl⟩, h.jo⟩⟩
  unfold armV
  rw [if_pos (upE_zero.2 ⟨hc, hd⟩), if_pos (by omega), hp, hd]
/-- after the cut, or the failure, and the start -/
structure Aft (n : Nat) (now : List S) (z : D) : Prop where
  all : allV z = (now, 0)
  left : z.left = -1
  len : z.secs.length = n
theorem Aft.check {n : Nat} {l : List S} {d : D} (h : Aft n l d) : checkB d = true ∧ d.down = false ∧ d.pend = [] := (allV_ok.1 h.all).1
theorem Aft.more {n : Nat} {l : List S} {d : D} {s : S} (h : Aft n l d) (hs : s.length ≤ 2000) (hl : l.length < 500) (hf : (encA l).length + (Wm.encS s).length ≤ 16 * (n - 2)) : ∃ d', appV d s = (d', 0) ∧ Aft n (l ++ [s]) d' := by
  have hlen := h.len
  rcases app_all h.all hs hl (by omega) with ⟨d', h1, h2, h3, h4, -⟩ | ⟨h1, -⟩
  · exact ⟨d', h1, h2, h4 h.left, by omega⟩
  · have := h.left
    omega
theorem crash_plain {n : Nat} {l : List S} {d : D} {s : S} {k : Nat} (h : Fil n l d) (hk : k ≤ 512) (hs : s.length ≤ 2000) (hl : l.length < 500) (hf : (encA l).length + (Wm.encS s).length ≤ 16 * (n - 2)) :
    (∃ (ys : List B) (yl : Int), appV (ds d.secs (k : Int) false) s = (ds ys yl false, 0) ∧ checkB (ds ys yl false) = true ∧ ys.length = n ∧ cutV (ds ys yl false) = (ds ys (-1) true, 0) ∧ checkB (ds ys (-1) true) = true ∧ stV (ds ys (-1) true) = (ds ys (-1) false, 0) ∧ Aft n (l ++ [s]) (ds ys (-1) false)) ∨
    (∃ ys : List B, appV (ds d.secs (k : Int) false) s = (ds ys (-1) true, 8) ∧ checkB (ds ys (-1) true) = true ∧ ys.length = n ∧ stV (ds ys (-1) true) = (ds ys (-1) false, 0) ∧ (Aft n l (ds ys (-1) false) ∨ Aft n (l ++ [s]) (ds ys (-1) false))) := by
  have hlen := h.len
  obtain ⟨-, ha⟩ := h.arm hk
  rcases app_all ha hs hl (by show _ ≤ 16 * (d.secs.length - 2); omega) with ⟨y, h1, h2, h3, -⟩ | ⟨-, y, h1, h2, h3, h4, h5, -⟩
  · left
    obtain ⟨⟨hc, hd, hp⟩, hj⟩ := allV_ok.1 h2
    obtain ⟨ys, yp, yl, yd⟩ := y
    change yd = false at hd
    change yp = [] at hp
    subst hd
    subst hp
    have hn : ys.length = n := by have : ys.length = d.secs.length := h3; omega
    have c2 : checkB (ds ys (-1) true) = true := check_cut hc
    have c3 : checkB (ds ys (-1) false) = true := check_start c2
    refine ⟨ys, yl, h1, hc, hn, ?_, c2, ?_, allV_ok.2 ⟨⟨c3, rfl, rfl⟩, hj⟩, rfl, hn⟩
    · unfold cutV
      rw [if_pos (upE_zero.2 ⟨hc, rfl⟩)]
    · unfold stV
      rw [c2]
      rfl
  · right
    obtain ⟨ys, yp, yl, yd⟩ := y
    change yd = true at h3
    subst h3
    obtain ⟨e1, e2⟩ := (check_iff.1 h2).2.2.2 rfl
    change yp = [] at e1
    change yl = -1 at e2
    subst e1
    subst e2
    have hn : ys.length = n := by have : ys.length = d.secs.length := h4; omega
    refine ⟨ys, h1, h2, hn, ?_, ?_⟩
    · unfold stV
      rw [h2]
      rfl
    · rcases h5 with q | q
      · exact .inl ⟨q, rfl, hn⟩
      · exact .inr ⟨q, rfl, hn⟩
/-- the room of 60 sectors -/
theorem crash_room {l : List S} {s t : S} (hl : ∀ x ∈ l, x.length ≤ 100) (h6 : l.length ≤ 6) (hs : s.length ≤ 100) (ht : t.length ≤ 100) : (encA l).length + (Wm.encS s).length ≤ 16 * (60 - 2) ∧ (encA l).length + (Wm.encS t).length ≤ 16 * (60 - 2) ∧ (encA (l ++ [s])).length + (Wm.encS t).length ≤ 16 * (60 - 2) := by
  have h1 := encA_100 hl
  have h2 := encS_100 hs
  have h3 := encS_100 ht
  rw [encA_snoc, List.length_append]
  omega
def leftN (n : Int) : Nat := ((n.tmod 16 + 16).tmod 16).toNat
theorem left_in (n : Int) : leftN n ≤ 15 ∧ (leftN n : Int) = (n.tmod 16 + 16).tmod 16 := by
  have h1 : -16 < n.tmod 16 := by have := Int.tmod_lt_of_pos (-n) (b := 16) (by decide); rw [Int.neg_tmod] at this; omega
  have h3 : 0 ≤ (n.tmod 16 + 16).tmod 16 := Int.tmod_nonneg 16 (by omega)
  have h4 : (n.tmod 16 + 16).tmod 16 < 16 := Int.tmod_lt_of_pos _ (by decide)
  unfold leftN
  omega

end Go.Proofs.YtemldlhhlneleaaDoor.Jn
