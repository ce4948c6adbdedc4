/-
  What later texts ask of journal (JournalOk); the laws' size, fits, filled.
-/
import Derived.Test.YtemldlhhlneleaaDoorJnT
namespace Go.Proofs.YtemldlhhlneleaaDoor.Jn
open Go.RowKit Dk Wi

def getV (d : D) (i : Int) : B × Int := if (allV d).2 = 0 then (if 0 ≤ i ∧ i < ((allV d).1.length : Int) then (mkB (((allV d).1[i.toNat]?).getD []), 0) else (⟨#[]⟩, 4)) else (⟨#[]⟩, (allV d).2)
/-- what the laws ask of the program -/
structure JournalOk : Prop where
  format : ∀ (v : Value) (d : D) (w : World), DAt w v d → Fit d → Tb w → Calls Tryd.prog 18 #[v] w fun r w' => ∃ x, r = .returned (.tuple #[x, .int .i64 (fmV d).2]) ∧ DAt w' x (fmV d).1 ∧ Below w.heap.size w w'
  all : ∀ (v : Value) (d : D) (w : World), DAt w v d → Fit d → Calls Tryd.prog 21 #[v] w fun r w' => ∃ x, r = .returned (.tuple #[x, .int .i64 (allV d).2]) ∧ LAt w' x (allV d).1 ∧ Below w.heap.size w w'
  len : ∀ (v : Value) (d : D) (w : World), DAt w v d → Fit d → Calls Tryd.prog 22 #[v] w fun r w' => r = .returned (.tuple #[.int .i64 ((allV d).1.length : Int), .int .i64 (allV d).2]) ∧ Below w.heap.size w w'
  get : ∀ (v : Value) (d : D) (i : Int) (w : World), DAt w v d → Fit d → I64 i → Calls Tryd.prog 23 #[v, .int .i64 i] w fun r w' => r = .returned (.tuple #[.string (getV d i).1, .int .i64 (getV d i).2]) ∧ Below w.heap.size w w'
  append : ∀ (v : Value) (d : D) (s : B) (w : World), DAt w v d → Fit d → s.size ≤ 9223372036854775807 → Tb w → Calls Tryd.prog 13 #[v, .string s] w fun r w' => ∃ x, r = .returned (.tuple #[x, .int .i64 (appV d s.data.toList).2]) ∧ DAt w' x (appV d s.data.toList).1 ∧ Below w.heap.size w w'

theorem conv_sh {P : Program} {f : FuncId} {args : Array Value} {w : World} {v : D × Int} {d : D} {e : Int} {n m : Nat} {l : Int} {b : Bool} (h : Calls P f args w fun r w' => ∃ x, r = .returned (.tuple #[x, .int .i64 v.2]) ∧ DAt w' x v.1 ∧ Below w.heap.size w w') (hv : v = (d, e)) (h1 : d.secs.length = n) (h2 : d.pend.length = m) (h3 : d.left = l) (h4 : d.down = b) :
    Calls P f args w fun r w' => ∃ a c p c2, r = .returned (.tuple #[.agg #[.slice a n c, .slice p m c2, .int .i64 l, .bool b], .int .i64 e]) ∧ DAt w' (.agg #[.slice a n c, .slice p m c2, .int .i64 l, .bool b]) d ∧ Below w.heap.size w w' := by
  subst h1 h2 h3 h4
  exact conv_d h hv
theorem conv_fil {P : Program} {f : FuncId} {args : Array Value} {w : World} {v : D × Int} {d : D} {e : Int} {n : Nat} {l : List S} (h : Calls P f args w fun r w' => ∃ x, r = .returned (.tuple #[x, .int .i64 v.2]) ∧ DAt w' x v.1 ∧ Below w.heap.size w w') (hv : v = (d, e)) (hf : Fil n l d) :
    Calls P f args w fun r w' => ∃ a c p c2, r = .returned (.tuple #[.agg #[.slice a n c, .slice p 0 c2, .int .i64 (-1), .bool false], .int .i64 e]) ∧ DAt w' (.agg #[.slice a n c, .slice p 0 c2, .int .i64 (-1), .bool false]) d ∧ Below w.heap.size w w' :=
  conv_sh h hv hf.len (by rw [hf.check.2.2]; rfl) hf.left hf.check.2.1

def sizeN (n : Int) : Nat := (1 + (n.tmod 40 + 40).tmod 40).toNat
theorem size_in (n : Int) : 1 ≤ sizeN n ∧ sizeN n ≤ 40 := by
  have h1 : -40 < n.tmod 40 := Int.neg_lt_of_neg_lt (by have := Int.tmod_lt_of_pos (-n) (b := 40) (by decide); rw [Int.neg_tmod] at this; omega)
  have h2 : n.tmod 40 < 40 := Int.tmod_lt_of_pos n (by decide)
  have h3 : 0 ≤ (n.tmod 40 + 40).tmod 40 := Int.tmod_nonneg 40 (by omega)
  have h4 : (n.tmod 40 + 40).tmod 40 < 40 := Int.tmod_lt_of_pos _ (by decide)
  unfold sizeN
  omega
theorem size_x (n : Int) (w : World) (_hn : I64 n) : Calls Tryd.prog 10 #[.int .i64 n] w fun r w' => r = .returned (.int .i64 (sizeN n : Int)) ∧ w = w' := by
  obtain ⟨a, ha⟩ : ∃ a, n.tmod 40 = a := ⟨_, rfl⟩
  obtain ⟨b, hb⟩ : ∃ b, (a + 40).tmod 40 = b := ⟨_, rfl⟩
  have h1 : -40 < a := by rw [← ha]; have := Int.tmod_lt_of_pos (-n) (b := 40) (by decide); rw [Int.neg_tmod] at this; omega
  have h2 : a < 40 := by rw [← ha]; exact Int.tmod_lt_of_pos n (by decide)
  have h3 : 0 ≤ b := by rw [← hb]; exact Int.tmod_nonneg 40 (by omega)
  have h4 : b < 40 := by rw [← hb]; exact Int.tmod_lt_of_pos _ (by decide)
  have hv : Hid ((sizeN n : Int) = 1 + b) := by show _ = _; unfold sizeN; rw [ha, hb]; omega
  go_enter Tryd.func10, Tryd.ntmps10
  go_wp2_with fail
  go_ret
  exact ⟨by rw [hv.out]; try rfl, rfl⟩

def fitsB (l : List B) (m : Int) : Bool := decide ((∀ s ∈ l, s.size ≤ 100) ∧ (l.length : Int) ≤ m)
def FsRel (l : List B) (w : World) (i : Value) (wr : World) : Prop := ∃ k : Nat, k ≤ l.length ∧ i = .int .i64 (k : Int) ∧ (∀ (j : Nat) (s : B), j < k → l[j]? = some s → s.size ≤ 100) ∧ w = wr
theorem fits_x (v : Value) (l : List B) (m : Int) (w : World) (h : SAt w v (strs l)) (hl : l.length ≤ 9223372036854775807) (hs : ∀ s ∈ l, s.size ≤ 9223372036854775807) :
    Calls Tryd.prog 25 #[v, .int .i64 m] w fun r w' => r = .returned (.bool (fitsB l m)) ∧ w = w' := by
  obtain ⟨a, c, rfl, -, hg⟩ := h
  have HG : Hid (∀ (j : Nat) (x : B), l[j]? = some x → ∃ g off, a = some ⟨g, off, none⟩ ∧ g < w.heap.size ∧ w.cell? ⟨g, off + j, none⟩ = some (.string x)) := fun j x hx => hg j _ (strs_get hx)
  have ll : (strs l).length = l.length := by simp
  rw [ll]
  have HS := Lib.hid hs
  clear hg ll hs
  go_enter Tryd.func25, Tryd.ntmps25
  go_wp2_with fail
  go_loopw [5] (fun i wr => FsRel l w i wr) (fun i _ => l.length - (intOf i).toNat)
  case atStart => exact ⟨0, Nat.zero_le _, rfl, fun j s hj => by omega, rfl⟩
  case round =>
    obtain ⟨k, hk, rfl, hall, rfl⟩ := hrel
    have HA := Lib.hid hall
    have k0 : (0 : Int) ≤ (k : Int) := by omega
    clear hall
    by_cases cc : k < l.length
    case pos =>
      have cc0 : (k : Int) < (l.length : Int) := by omega
      obtain ⟨s, hs⟩ : ∃ s, l[k]? = some s := ⟨_, List.getElem?_eq_getElem cc⟩
      obtain ⟨g, off, rfl, g1, g2⟩ := HG.out k s hs
      have sb := HS.out s (List.mem_of_getElem? hs)
      have HSS := Lib.hid hs
      clear hs
      by_cases t : s.size ≤ 100
      · have t1 : ¬ 100 < (s.size : Int) := by omega
        have HN := Lib.hid (all_upto HA.out HSS.out t)
        clear t
        go_wp2_with fail
        go_roundw
        case rel => exact ⟨k + 1, by omega, by congr 1, HN.out, rfl⟩
        case measure => simp [intOf]; omega
      · have t1 : 100 < (s.size : Int) := by omega
        have hv : Hid (fitsB l m = false) := decide_eq_false (fun q => t (q.1 s (List.mem_of_getElem? HSS.out)))
        clear t
        go_wp2_with fail
        go_ret
        exact ⟨by rw [hv.out]; try rfl, rfl⟩
    case neg =>
      have cc0 : ¬ (k : Int) < (l.length : Int) := by omega
      have HL := Lib.hid (all_of HA.out (by omega))
      have hv : Hid (fitsB l m = decide ((l.length : Int) ≤ m)) := by
        show _ = _
        unfold fitsB
        by_cases q : (l.length : Int) ≤ m
        · rw [decide_eq_true q]; exact decide_eq_true ⟨HL.out, q⟩
        · rw [decide_eq_false q]; exact decide_eq_false (fun r => q r.2)
      go_wp2_with fail
      go_ret
      exact ⟨by rw [hv.out]; try rfl, rfl⟩

/-! filled -/
def FiRel (n g : Nat) (l : List S) (w : World) (e i : Value) (wr : World) : Prop := ∃ (k : Nat) (d : D) (a : Option Addr) (c : Nat) (p : Option Addr) (c2 : Nat), k ≤ l.length ∧ e = .int .i64 0 ∧ i = .int .i64 (k : Int) ∧ Fil n (l.take k) d ∧
  Bx (.slice a n c) (.slice p 0 c2) (-1) false g wr ∧ DAt wr (.agg #[.slice a n c, .slice p 0 c2, .int .i64 (-1), .bool false]) d ∧ Bx (.slice none 0 0) (.slice none 0 0) 0 false w.heap.size wr ∧ Below w.heap.size w wr
theorem take_more {α : Type} {l : List α} {k : Nat} {x : α} (h : l[k]? = some x) : l.take (k + 1) = l.take k ++ [x] := by rw [List.take_add_one, h]; rfl

set_option maxHeartbeats 6400000 in
set_option maxRecDepth 100000 in
theorem filled_x (ok : JournalOk) (n : Nat) (v : Value) (l : List S) (w : World) (ht : Tb w) (h : LAt w v l) (h3 : 3 ≤ n) (h5 : n ≤ 512) (hl : l.length ≤ 8) (hs : ∀ s ∈ l, s.length ≤ 100) (hr : 104 * l.length ≤ 16 * (n - 2)) :
    Calls Tryd.prog 26 #[.int .i64 (n : Int), v] w fun r w' => ∃ x d, r = .returned (.tuple #[x, .bool true]) ∧ Fil n l d ∧ DAt w' x d ∧ Below w.heap.size w w' := by
  obtain ⟨sa, sc, rfl, -, hg⟩ := h
  have HG : Hid (∀ (j : Nat) (x : S), l[j]? = some x → ∃ g off, sa = some ⟨g, off, none⟩ ∧ g < w.heap.size ∧ w.cell? ⟨g, off + j, none⟩ = some (.string (mkB x))) := fun j x hx => hg j _ (strs_get (by rw [List.getElem?_map, hx]; rfl))
  have ll : (strs (l.map mkB)).length = l.length := by simp
  rw [ll]
  have HS := Lib.hid hs
  have HT := Lib.hid ht
  clear ht
  obtain ⟨d0, n1, n2, F0⟩ := fil_start h3 h5
  have HF0 := Lib.hid F0
  have HNW : Hid (∀ W, Calls Tryd.prog 9 #[.int .i64 (n : Int)] W fun r w' => ∃ a c p c2, r = .returned (.tuple #[.agg #[.slice a n c, .slice p 0 c2, .int .i64 (-1), .bool false], .int .i64 0]) ∧ DAt w' (.agg #[.slice a n c, .slice p 0 c2, .int .i64 (-1), .bool false]) ⟨List.replicate n (zb 16), [], -1, false⟩ ∧ Below W.heap.size W w') := by
    show ∀ W, _
    intro W
    exact conv_sh (New_x (n : Int) W (by unfold I64; omega)) n1 List.length_replicate rfl rfl rfl
  have HFM : Hid (∀ W v, Below w.heap.size w W → DAt W v ⟨List.replicate n (zb 16), [], -1, false⟩ → Calls Tryd.prog 18 #[v] W fun r w' => ∃ a c p c2, r = .returned (.tuple #[.agg #[.slice a n c, .slice p 0 c2, .int .i64 (-1), .bool false], .int .i64 0]) ∧ DAt w' (.agg #[.slice a n c, .slice p 0 c2, .int .i64 (-1), .bool false]) d0 ∧ Below W.heap.size W w') := by
    show ∀ W v, _
    intro W v hB hW
    refine conv_fil (ok.format v _ W hW ?_ (HT.out.next hB)) n2 F0
    refine ⟨by show (List.replicate n (zb 16)).length ≤ _; rw [List.length_replicate]; omega, Nat.zero_le _, by unfold I64; exact ⟨by show (-9223372036854775808 : Int) ≤ -1; decide, by show (-1 : Int) ≤ 9223372036854775807; decide⟩, fun p hp => absurd hp List.not_mem_nil, fun s hs => ?_, fun p hp => absurd hp List.not_mem_nil⟩
    rw [(List.mem_replicate.1 hs).2]
    decide
  have Y1 : Hid (Bx (.slice none 0 0) (.slice none 0 0) 0 false w.heap.size (w.alloc (.cells #[.slice none 0 0, .slice none 0 0, .int .i64 0, .bool false] 27))) := Bx.new _ _ _ _ _ _
  have BW : Hid (Below w.heap.size w (w.alloc (.cells #[.slice none 0 0, .slice none 0 0, .int .i64 0, .bool false] 27))) := Below.new1 _
  clear hg ll hs n1 n2 F0
  go_enter Tryd.func26, Tryd.ntmps26
  go_wp2_with fail
  refine (HNW.out _).mono ?_
  rintro r w1 ⟨a1, c1, p1, e1, rfl, h1, b1⟩
  have Y2 := Lib.hid ((Y1.out.next b1).next (Below.new1 (.cells #[.slice a1 n c1, .slice p1 0 e1, .int .i64 (-1), .bool false] 27)))
  have B2 := Lib.hid (chain (chain BW.out b1) (Below.new1 (.cells #[.slice a1 n c1, .slice p1 0 e1, .int .i64 (-1), .bool false] 27)))
  have H2 := Lib.hid (h1.next (Below.new1 (.cells #[.slice a1 n c1, .slice p1 0 e1, .int .i64 (-1), .bool false] 27)))
  clear h1 b1 Y1 BW HNW
  go_wp2_with fail
  refine (HFM.out _ _ B2.out H2.out).mono ?_
  rintro r w2 ⟨a2, c2, p2, e2, rfl, h2, b2⟩
  have yl : w.heap.size < w2.heap.size := (Y2.out.next b2).lt
  have YL := Lib.hid yl
  have R0 : Hid (FiRel n w2.heap.size l w (.int .i64 0) (.int .i64 0) (w2.alloc (.cells #[.slice a2 n c2, .slice p2 0 e2, .int .i64 (-1), .bool false] 27))) :=
    ⟨0, d0, a2, c2, p2, e2, Nat.zero_le _, rfl, rfl, HF0.out, Bx.new _ _ _ _ _ _, h2.next (Below.new1 _), (Y2.out.next b2).next (Below.new1 _), chain (chain B2.out b2) (Below.new1 _)⟩
  clear h2 b2 Y2 B2 H2 HFM yl
  go_wp2_with fail
  go_loopw [9, 10] (fun e i wr => FiRel n w2.heap.size l w e i wr) (fun _ i _ => l.length - (intOf i).toNat)
  case atStart => exact R0.out
  case round =>
    clear R0
    obtain ⟨k, d, a, c, p, e, hk, rfl, rfl, hF, hP, hH, hY, hB⟩ := hrel
    have HF := Lib.hid hF
    have HP := Lib.hid hP
    have HH := Lib.hid hH
    have HY := Lib.hid hY
    have HB := Lib.hid hB
    have k0 : (0 : Int) ≤ (k : Int) := by omega
    have p0 := hP.c0
    have p1' := hP.c1
    have p2' := hP.c2
    have p3 := hP.c3
    have pl := hP.lt
    have gn : w2.heap.size ≠ w.heap.size := by have := YL.out; omega
    clear hF hP hH hY hB
    by_cases cc : k < l.length
    case neg =>
      have cc0 : ¬ (k : Int) < (l.length : Int) := by omega
      have he : Hid (l.take k = l) := List.take_of_length_le (by omega)
      have y0 := HY.out.c0
      have y1 := HY.out.c1
      have y2 := HY.out.c2
      have y3 := HY.out.c3
      have yl := HY.out.lt
      have yf := HY.out.fz
      have HX := Lib.hid (HH.out.put HY.out (fun s => by simp) (fun s => by simp) (.slice a n c) (.slice p 0 e) (-1) false)
      have BX := Lib.hid (below_put HB.out (g := w.heap.size) (Nat.le_refl _) (.slice a n c) (.slice p 0 e) (-1) false)
      go_wp2_with fail
      exact bodyPost_ret (v := .tuple #[.agg #[.slice a n c, .slice p 0 e, .int .i64 (-1), .bool false], .bool true]) (by simp [results, Tryd.results26, go_sem, y0, y1, y2, y3]) rfl ⟨_, rfl, d, by have := HF.out; rw [he.out] at this; exact this, HX.out, BX.out⟩
    case pos =>
      have cc0 : (k : Int) < (l.length : Int) := by omega
      obtain ⟨x, hx⟩ : ∃ s, l[k]? = some s := ⟨_, List.getElem?_eq_getElem cc⟩
      obtain ⟨g, off, rfl, g1, g2⟩ := HG.out k x hx
      have g3 : wr.cell? ⟨g, off + k, none⟩ = some (.string (mkB x)) := by rw [HB.out.cell (p := ⟨g, off + k, none⟩) g1]; exact g2
      have g4 : g < wr.heap.size := Nat.lt_of_lt_of_le g1 HB.out.size
      have gw : g ≠ w2.heap.size := by have := YL.out; omega
      have hx1 : x.length ≤ 100 := HS.out x (List.mem_of_getElem? hx)
      obtain ⟨d', q1, q2⟩ := HF.out.more (s := x) (by omega) (by rw [List.length_take]; omega) (by
        have m1 := encA_100 (l := l.take k) (fun s hs => HS.out s (List.mem_of_mem_take hs))
        have m2 := encS_100 hx1
        rw [List.length_take, Nat.min_eq_left hk] at m1
        omega)
      rw [← take_more hx] at q2
      have HQ := Lib.hid q2
      have HAP : Hid (∀ W, Below w.heap.size w W → DAt W (.agg #[.slice a n c, .slice p 0 e, .int .i64 (-1), .bool false]) d → Calls Tryd.prog 13 #[.agg #[.slice a n c, .slice p 0 e, .int .i64 (-1), .bool false], .string (mkB x)] W fun r w' => ∃ a c p c2, r = .returned (.tuple #[.agg #[.slice a n c, .slice p 0 c2, .int .i64 (-1), .bool false], .int .i64 0]) ∧ DAt w' (.agg #[.slice a n c, .slice p 0 c2, .int .i64 (-1), .bool false]) d' ∧ Below W.heap.size W w') := by
        show ∀ W, _
        intro W hB hW
        exact conv_fil (ok.append _ d (mkB x) W hW HF.out.fit (by rw [mkB_size]; omega) (HT.out.next hB)) q1 q2
      clear hx q1 q2 g2
      go_wp2_with fail
      refine wp_region_held_drew (S := fun w' => w'.cell? ⟨g, off + k, none⟩ = some (.string (mkB x))) (by kernel_rfl) ?_ (fun hHeld => ?_)
      · exact g3
      refine takeN1 (v := ?_) (by kernel_rfl) (by kernel_rfl) (by kernel_rfl) (fun _ _ _ h => h) (by rfl) ?_ (by assumption) ?_
      rotate_left
      · intro wz hSw
        try dsimp only at hSw
        go_simp
        try with_reducible rfl
      try simp only [Act.put, List.setIfInBounds_toArray, List.set_cons_zero, List.set_cons_succ]
      refine takeN2 (v := ?_) (by kernel_rfl) (by kernel_rfl) (by kernel_rfl) (fun _ _ _ h => h) (by rfl) ?_ (by assumption) ?_
      rotate_left
      · intro wz hSw
        try dsimp only at hSw
        go_simp
        try with_reducible rfl
      try simp only [Act.put, List.setIfInBounds_toArray, List.set_cons_zero, List.set_cons_succ]
      refine takeN3 (v := ?_) (by kernel_rfl) (by kernel_rfl) (by kernel_rfl) (fun _ _ _ h => h) (by rfl) ?_ (by assumption) ?_
      rotate_left
      · intro wz hSw
        try dsimp only at hSw
        go_simp
        try with_reducible rfl
      try simp only [Act.put, List.setIfInBounds_toArray, List.set_cons_zero, List.set_cons_succ]
      refine takeN4 (v := ?_) (by kernel_rfl) (by kernel_rfl) (by kernel_rfl) (fun _ _ _ h => h) (by rfl) ?_ (by assumption) ?_
      rotate_left
      · intro wz hSw
        try dsimp only at hSw
        go_simp
        try with_reducible rfl
      try simp only [Act.put, List.setIfInBounds_toArray, List.set_cons_zero, List.set_cons_succ]
      refine comeN0 (by kernel_rfl) (by rfl) (fun K hK => ?_)
      go_simp
      refine hK.out _ _ ?_ (fun hHeld => ?_)
      · exact g3
      clear hK K
      try simp only [Act.put, List.setIfInBounds_toArray, List.set_cons_zero, List.set_cons_succ]
      refine comeN5 (by kernel_rfl) (by rfl) (fun K hK => ?_)
      go_simp
      (go_at_call 13; refine (HAP.out _ (chain HB.out (Below.refl _ _).drew) (HH.out.next (Below.refl _ _).drew)).mono ?_; rintro r w5 ⟨a5, c5, p5, e5, rfl, h5', b5⟩)
      try go_wp2_with fail
      have HP5 := Lib.hid ((HP.out.next (Below.refl _ _).drew).next b5)
      have HY5 := Lib.hid ((HY.out.next (Below.refl _ _).drew).next b5)
      have HB5 := Lib.hid (chain (chain HB.out (Below.refl _ _).drew) b5)
      have H5 := Lib.hid h5'
      clear h5' b5 p0 p1' p2' p3 pl
      refine hK.out _ _ ?_ (fun hHeld => ?_)
      · show w5.cell? _ = _; rw [HB5.out.cell (p := ⟨g, off + k, none⟩) g1]; rw [HB.out.cell (p := ⟨g, off + k, none⟩) g1] at g3; exact g3
      clear hK K
      try simp only [Act.put, List.setIfInBounds_toArray, List.set_cons_zero, List.set_cons_succ]
      refine takeN6 (v := ?_) (by kernel_rfl) (by kernel_rfl) (by kernel_rfl) (fun _ _ _ h => h) (by rfl) ?_ (by assumption) ?_
      rotate_left
      · intro wz hSw
        try dsimp only at hSw
        go_simp
        try with_reducible rfl
      try simp only [Act.put, List.setIfInBounds_toArray, List.set_cons_zero, List.set_cons_succ]
      refine takeN7 (v := ?_) (by kernel_rfl) (by kernel_rfl) (by kernel_rfl) (fun _ _ _ h => h) (by rfl) ?_ (by assumption) ?_
      rotate_left
      · intro wz hSw
        try dsimp only at hSw
        go_simp
        try with_reducible rfl
      try simp only [Act.put, List.setIfInBounds_toArray, List.set_cons_zero, List.set_cons_succ]
      refine takeN8 (v := ?_) (by kernel_rfl) (by kernel_rfl) (by kernel_rfl) (fun _ _ _ h => h) (by rfl) ?_ (by assumption) ?_
      rotate_left
      · intro wz hSw
        try dsimp only at hSw
        go_simp
        try with_reducible rfl
      try simp only [Act.put, List.setIfInBounds_toArray, List.set_cons_zero, List.set_cons_succ]
      refine comeN9 (by kernel_rfl) (by rfl) (fun K hK => ?_)
      have p0 := HP5.out.c0
      have p1' := HP5.out.c1
      have p2' := HP5.out.c2
      have p3 := HP5.out.c3
      have pl := HP5.out.lt
      have pf := HP5.out.fz
      go_simp
      have HP6 := Lib.hid (HP5.out.put (.slice a5 n c5) (.slice p5 0 e5) (-1) false)
      have HY6 := Lib.hid (HY5.out.putO (g := w2.heap.size) gn.symm (.slice a5 n c5) (.slice p5 0 e5) (-1) false)
      have HB6 := Lib.hid (below_put HB5.out (g := w2.heap.size) (by have := YL.out; omega) (.slice a5 n c5) (.slice p5 0 e5) (-1) false)
      have H6 := Lib.hid (H5.out.put HP5.out (fun s => by simp) (fun s => by simp) (.slice a5 n c5) (.slice p5 0 e5) (-1) false)
      refine hK.out _ _ ?_ (fun hHeld => ?_)
      · show (put4 w5 w2.heap.size (.slice a5 n c5) (.slice p5 0 e5) (-1) false).cell? _ = _; rw [HB6.out.cell (p := ⟨g, off + k, none⟩) g1]; rw [HB.out.cell (p := ⟨g, off + k, none⟩) g1] at g3; exact g3
      clear hK K
      try simp only [Act.put, List.setIfInBounds_toArray, List.set_cons_zero, List.set_cons_succ]
      refine takeN10 (v := ?_) (by kernel_rfl) (by kernel_rfl) (by kernel_rfl) (fun _ _ _ h => h) (by rfl) ?_ (by assumption) ?_
      rotate_left
      · intro wz hSw
        try dsimp only at hSw
        go_simp
        try with_reducible rfl
      try simp only [Act.put, List.setIfInBounds_toArray, List.set_cons_zero, List.set_cons_succ]
      refine wpAnyH_done (by kernel_rfl) ?_ _
      clear p0 p1' p2' p3 pl pf
      go_wp2_with fail
      go_roundw
      case rel => exact ⟨k + 1, d', a5, c5, p5, e5, by omega, rfl, by congr 1, HQ.out, HP6.out, H6.out, HY6.out, HB6.out⟩
      case measure => simp [intOf]; omega

end Go.Proofs.YtemldlhhlneleaaDoor.Jn
