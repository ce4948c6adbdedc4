/-
  The library's table of powers of ten, as its initialiser lays it (Tb): what strconv.Itoa reads.
-/
import Derived.Test.YtemldlhhlneleaaDoorJrG
import Derived.Lib.LaidTab
import Derived.Lib.ItoaNum
namespace Go.Proofs.YtemldlhhlneleaaDoor.Jn
open Go.RowKit Dk Wi

theorem gPow : Tryd.prog.globalNamed "internal/strconv.uint64pow10" = some 1 := by kernel_rfl
def powC : Array Value := (Lib.pow10Tab.map fun z => Value.int .u64 z).toArray
def Tb (w : World) : Prop := ∃ t fr, w.heap[1]? = some (.cells powC t fr)
theorem Tb.pos {w : World} (h : Tb w) : 1 < w.heap.size := by
  obtain ⟨t, fr, h⟩ := h
  exact (Array.getElem?_eq_some_iff.1 h).1
theorem Tb.next {W w' : World} (h : Tb W) (hb : Below W.heap.size W w') : Tb w' := by
  have hp := h.pos
  obtain ⟨t, fr, h⟩ := h
  exact ⟨t, fr, by rw [hb.block _ hp]; exact h⟩
theorem Tb.tab {w : World} (h : Tb w) : Lib.TabIs Tryd.prog w "internal/strconv.uint64pow10" .u64 Lib.pow10Tab := by
  obtain ⟨t, fr, h⟩ := h
  show w.var? Tryd.prog "internal/strconv.uint64pow10" = some powC
  unfold World.var?
  rw [gPow]
  simp only [Option.bind_some]
  rw [h]
theorem Tb.of {w : World} (h : Lib.TabIs Tryd.prog w "internal/strconv.uint64pow10" .u64 Lib.pow10Tab) : Tb w := by
  have h2 : w.var? Tryd.prog "internal/strconv.uint64pow10" = some powC := h
  unfold World.var? at h2
  rw [gPow] at h2
  simp only [Option.bind_some] at h2
  split at h2
  · rename_i cs t fr hg
    obtain rfl := Option.some.inj h2
    exact ⟨t, fr, hg⟩
  · cases h2

end Go.Proofs.YtemldlhhlneleaaDoor.Jn

/-
  The laws of journal, plain: disks that hold a list, formatted and filled.
-/
namespace Go.Proofs.YtemldlhhlneleaaDoor.Jn
open Go.RowKit Dk Wi

theorem encI_100 : ∀ n : Nat, n ≤ 100 → (Wm.encI (n : Int)).length ≤ 4 := by
  have h : (List.range 101).all (fun n => decide ((Wm.encI (n : Int)).length ≤ 4)) = true := by decide +kernel
  intro n hn
  exact of_decide_eq_true (List.all_eq_true.1 h n (List.mem_range.2 (by omega)))
theorem encS_100 {s : S} (h : s.length ≤ 100) : (Wm.encS s).length ≤ 104 := by
  have := encI_100 s.length h
  unfold Wm.encS
  rw [List.length_append]
  omega
theorem encA_100 : ∀ {l : List S}, (∀ s ∈ l, s.length ≤ 100) → (encA l).length ≤ 104 * l.length
  | [], _ => by simp [encA]
  | x :: t, h => by
    have h1 := encS_100 (h x List.mem_cons_self)
    have h2 := encA_100 (l := t) (fun s hs => h s (List.mem_cons_of_mem _ hs))
    rw [encA_cons, List.length_append, List.length_cons]
    omega
/-- a disk of n sectors with a journal that holds a list; nothing armed -/
structure Fil (n : Nat) (l : List S) (d : D) : Prop where
  all : allV d = (l, 0)
  left : d.left = -1
  len : d.secs.length = n
  hd : ∀ i : Nat, i < 2 → 0 ≤ hn d.secs i ∧ hn d.secs i ≤ ((encA l).length : Int)
theorem Fil.check {n : Nat} {l : List S} {d : D} (h : Fil n l d) : checkB d = true ∧ d.down = false ∧ d.pend = [] := (allV_ok.1 h.all).1
theorem Fil.jo {n : Nat} {l : List S} {d : D} (h : Fil n l d) : Jo d.secs l := (allV_ok.1 h.all).2
theorem Fil.fit {n : Nat} {l : List S} {d : D} (h : Fil n l d) : Fit d := fit_right h.check.1
theorem Fil.more {n : Nat} {l : List S} {d : D} {s : S} (h : Fil n l d) (hs : s.length ≤ 2000) (hl : l.length < 500) (hf : (encA l).length + (Wm.encS s).length ≤ 16 * (n - 2)) : ∃ d', appV d s = (d', 0) ∧ Fil n (l ++ [s]) d' := by
  have hlen := h.len
  rcases app_all h.all hs hl (by omega) with ⟨d', h1, h2, h3, h4, -, h6, h7⟩ | ⟨h1, -⟩
  · refine ⟨d', h1, h2, h4 h.left, by omega, fun i hi => ?_⟩
    have he : (encA (l ++ [s])).length = (encA l).length + (Wm.encS s).length := by rw [encA_snoc, List.length_append]
    by_cases c : (i : Int) = othI d.secs
    · rw [h6 i c]
      omega
    · rw [h7 i hi c]
      have := h.hd i hi
      omega
  · have := h.left
    omega
theorem Fil.full {n : Nat} {l : List S} {d : D} {s : S} (h : Fil n l d) (hs : s.length ≤ 2000) (hf : ¬ (l.length < 500 ∧ (encA l).length + (Wm.encS s).length ≤ 16 * (n - 2))) : appV d s = (D0, 6) := by
  unfold appV
  rw [h.all, if_pos rfl, if_pos hs]
  rw [← h.len] at hf
  exact if_neg hf
theorem fil_start {n : Nat} (h3 : 3 ≤ n) (h5 : n ≤ 512) : ∃ d, newV (n : Int) = (⟨List.replicate n (zb 16), [], -1, false⟩, 0) ∧ fmV ⟨List.replicate n (zb 16), [], -1, false⟩ = (d, 0) ∧ Fil n [] d := by
  obtain ⟨e, he⟩ : ∃ e : D, e = ⟨List.replicate n (zb 16), [], -1, false⟩ := ⟨_, rfl⟩
  have el : e.secs.length = n := by rw [he]; exact List.length_replicate
  have ck : checkB e = true := check_iff.2 (by
    subst he
    refine ⟨⟨by simp; omega, by simp; omega, by simp, by simp, by simp⟩, fun s hs => ?_, fun p hp => absurd hp List.not_mem_nil, fun q => by cases q⟩
    rw [(List.mem_replicate.1 hs).2]
    rfl)
  have hr : rdy e = 0 := rdy_zero.2 ⟨ck, by rw [he], by rw [he]⟩
  obtain ⟨-, -, -, c2⟩ := fm_wr hr (by omega)
  have hle : e.left = -1 := by rw [he]
  have hfl : flV (fm2 e) = (flushD (fm2 e), 0) := by
    unfold flV
    rw [if_pos (upE_zero.2 ⟨c2, rfl⟩), if_neg]
    show ¬ (0 ≤ e.left ∧ _)
    omega
  have cf : checkB (flushD (fm2 e)) = true := check_flush c2 (by show ¬ (0 ≤ e.left ∧ _); omega)
  have hs0 : hn (flushD (fm2 e)).secs 0 = 0 := by
    show hn ((e.secs.set 0 (header 0)).set 1 (header 0)) 0 = 0
    rw [hn_set_ne (by decide), hn_set_same (by omega)]
    exact num_header (by decide)
  have hs1 : hn (flushD (fm2 e)).secs 1 = 0 := by
    show hn ((e.secs.set 0 (header 0)).set 1 (header 0)) 1 = 0
    rw [hn_set_same (by rw [List.length_set]; omega)]
    exact num_header (by decide)
  have hl : (flushD (fm2 e)).secs.length = n := by
    show (perf e.secs _).length = n
    rw [perf_len, el]
  have hleft : (flushD (fm2 e)).left = -1 := by
    show (if 0 ≤ e.left then _ else -1 : Int) = -1
    rw [if_neg (by omega)]
  refine ⟨flushD (fm2 e), ?_, ?_, ?_, hleft, hl, fun i hi => ?_⟩
  · unfold newV
    rw [if_pos ⟨by omega, by omega⟩]
    rfl
  · rw [← he]
    unfold fmV
    rw [if_pos hr, if_neg (by omega), hfl]
  · refine allV_ok.2 ⟨⟨cf, rfl, rfl⟩, ⟨by omega, .inl (by omega), ?_, by simp [encA], by simp [encA], fun x hx => absurd hx List.not_mem_nil, by simp⟩⟩
    unfold curN
    rw [hs0, hs1]
    rfl
  · rcases Nat.lt_or_ge i 1 with k | k
    · obtain rfl : i = 0 := by omega
      rw [hs0]
      simp [encA]
    · obtain rfl : i = 1 := by omega
      rw [hs1]
      simp [encA]

end Go.Proofs.YtemldlhhlneleaaDoor.Jn

