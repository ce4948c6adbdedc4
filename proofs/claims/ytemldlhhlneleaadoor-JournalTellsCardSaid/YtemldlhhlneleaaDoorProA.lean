/-
  The program: hasSector, rightSectors, rightPending, Check, checkUp.
-/
import Derived.Test.YtemldlhhlneleaaDoorDkOk
namespace Go.Proofs.YtemldlhhlneleaaDoor
open Go.RowKit Dk

def hasB (d : D) (n : Int) : Bool := decide (0 ≤ n ∧ n < (d.secs.length : Int))
theorem hasSector_x (v : Value) (d : D) (n : Int) (w : World) (h : DAt w v d) :
    Calls Tryd.prog 75 #[v, .int .i64 n] w fun r w' => r = .returned (.bool (hasB d n)) ∧ Below w.heap.size w w' := by
  obtain ⟨a, c, b, c2, rfl, -, -, -, -⟩ := h.form
  obtain ⟨N, hN⟩ : ∃ N, d.secs.length = N := ⟨_, rfl⟩
  have hv0 : Hid (hasB d n = decide (0 ≤ n ∧ n < (N : Int))) := by show _ = _; unfold hasB; rw [hN]
  rw [hN]
  clear h hN
  by_cases t1 : 0 ≤ n
  · by_cases t2 : n < (N : Int)
    · have hv : Hid (hasB d n = true) := by show _ = _; rw [hv0.out]; exact decide_eq_true ⟨t1, t2⟩
      go_enter Tryd.func75, Tryd.ntmps75
      go_wp2_with fail
      go_ret
      exact ⟨by rw [hv.out]; try rfl, Below.new1 _⟩
    · have hv : Hid (hasB d n = false) := by show _ = _; rw [hv0.out]; exact decide_eq_false (by omega)
      go_enter Tryd.func75, Tryd.ntmps75
      go_wp2_with fail
      go_ret
      exact ⟨by rw [hv.out]; try rfl, Below.new1 _⟩
  · have hv : Hid (hasB d n = false) := by show _ = _; rw [hv0.out]; exact decide_eq_false (by omega)
    go_enter Tryd.func75, Tryd.ntmps75
    go_wp2_with fail
    go_ret
    exact ⟨by rw [hv.out]; try rfl, Below.new1 _⟩

def secB (l : List B) : Bool := decide (1 ≤ l.length ∧ l.length ≤ 512) && l.all (fun s => decide (s.size = 16))
def pndB (d : D) : Bool := decide (d.pend.length ≤ 512) && d.pend.all (okW d.secs.length)
theorem secB_iff {l : List B} : secB l = true ↔ (1 ≤ l.length ∧ l.length ≤ 512) ∧ ∀ s ∈ l, s.size = 16 := by
  unfold secB
  rw [Bool.and_eq_true, decide_eq_true_iff, List.all_eq_true]
  simp only [decide_eq_true_iff]
theorem secB_no {l : List B} (h : ¬ ((1 ≤ l.length ∧ l.length ≤ 512) ∧ ∀ s ∈ l, s.size = 16)) : secB l = false := by
  rw [← Bool.not_eq_true]
  exact fun e => h (secB_iff.1 e)
theorem pndB_iff {d : D} : pndB d = true ↔ d.pend.length ≤ 512 ∧ ∀ p ∈ d.pend, 0 ≤ p.1 ∧ p.1 < (d.secs.length : Int) ∧ p.2.size = 16 := by
  unfold pndB okW
  rw [Bool.and_eq_true, decide_eq_true_iff, List.all_eq_true]
  simp only [decide_eq_true_iff]
theorem pndB_no {d : D} (h : ¬ (d.pend.length ≤ 512 ∧ ∀ p ∈ d.pend, 0 ≤ p.1 ∧ p.1 < (d.secs.length : Int) ∧ p.2.size = 16)) : pndB d = false := by
  rw [← Bool.not_eq_true]
  exact fun e => h (pndB_iff.1 e)
theorem chk_iff {d : D} : checkB d = true ↔ secB d.secs = true ∧ pndB d = true ∧ (-1 ≤ d.left ∧ d.left ≤ 512) ∧ (d.down = true → d.pend = [] ∧ d.left = -1) := by
  rw [check_iff, secB_iff, pndB_iff]
  constructor
  · rintro ⟨⟨a, b, c, e, f⟩, g, h, i⟩
    exact ⟨⟨⟨a, b⟩, g⟩, ⟨c, h⟩, ⟨e, f⟩, i⟩
  · rintro ⟨⟨⟨a, b⟩, g⟩, ⟨c, h⟩, ⟨e, f⟩, i⟩
    exact ⟨⟨a, b, c, e, f⟩, g, h, i⟩
theorem chk_zero {d : D} (h : secB d.secs = true ∧ pndB d = true ∧ (-1 ≤ d.left ∧ d.left ≤ 512) ∧ (d.down = true → d.pend = [] ∧ d.left = -1)) : chk d = 0 := chk_yes (chk_iff.2 h)
theorem chk_one {d : D} (h : ¬ (secB d.secs = true ∧ pndB d = true ∧ (-1 ≤ d.left ∧ d.left ≤ 512) ∧ (d.down = true → d.pend = [] ∧ d.left = -1))) : chk d = 1 := chk_no (by
  rw [← Bool.not_eq_true]
  exact fun e => h (chk_iff.1 e))

def P1Rel (l : List B) (w : World) (i : Value) (wr : World) : Prop := ∃ k : Nat, k ≤ l.length ∧ i = .int .i64 (k : Int) ∧ (∀ (j : Nat) (s : B), j < k → l[j]? = some s → s.size = 16) ∧ w = wr
def P2Rel (d : D) (w : World) (i : Value) (wr : World) : Prop := ∃ k : Nat, k ≤ d.pend.length ∧ i = .int .i64 (k : Int) ∧ (∀ (j : Nat) (p : Int × B), j < k → d.pend[j]? = some p → 0 ≤ p.1 ∧ p.1 < (d.secs.length : Int) ∧ p.2.size = 16) ∧ Below w.heap.size w wr

set_option maxHeartbeats 3200000 in
theorem rightSectors_x (v : Value) (l : List B) (w : World) (h : SAt w v (strs l)) (hl : l.length ≤ 1099511627776) (hs : ∀ s ∈ l, s.size ≤ 9223372036854775807) :
    Calls Tryd.prog 70 #[v] w fun r w' => r = .returned (.bool (secB l)) ∧ w = w' := by
  obtain ⟨a, c, rfl, -, hc⟩ := h
  have HC := Lib.hid hc
  have HSZ := Lib.hid hs
  rw [strs_len]
  clear hc hs
  by_cases t1 : l.length < 1
  · have f1 : (l.length : Int) < 1 := by omega
    have hv : Hid (secB l = false) := secB_no (by omega)
    go_enter Tryd.func70, Tryd.ntmps70
    go_wp2_with fail
    go_ret
    exact ⟨by rw [hv.out]; try rfl, rfl⟩
  have f1 : ¬ (l.length : Int) < 1 := by omega
  by_cases t2 : 512 < l.length
  · have f2 : 512 < (l.length : Int) := by omega
    have hv : Hid (secB l = false) := secB_no (by omega)
    go_enter Tryd.func70, Tryd.ntmps70
    go_wp2_with fail
    go_ret
    exact ⟨by rw [hv.out]; try rfl, rfl⟩
  have f2 : ¬ 512 < (l.length : Int) := by omega
  go_enter Tryd.func70, Tryd.ntmps70
  go_wp2_with fail
  go_loopw [15] (fun i wr => P1Rel l w i wr) (fun i _ => l.length - (intOf i).toNat)
  case atStart => exact ⟨0, Nat.zero_le _, rfl, fun j s hj => by omega, rfl⟩
  case round =>
    obtain ⟨k, hk, rfl, hall, rfl⟩ := hrel
    have Ha := Lib.hid hall
    have k0 : (0 : Int) ≤ (k : Int) := by omega
    clear hall
    by_cases cc : k < l.length
    case pos =>
      have cc0 : (k : Int) < (l.length : Int) := by omega
      obtain ⟨s, hs⟩ : ∃ s, l[k]? = some s := ⟨_, List.getElem?_eq_getElem cc⟩
      obtain ⟨g, off, rfl, g1, g2⟩ := HC.out k _ (strs_get hs)
      have sb := HSZ.out s (List.mem_of_getElem? hs)
      have HSS := Lib.hid hs
      clear hs
      by_cases e : s.size = 16
      · have e1 : ((s.size : Int) != 16) = false := by simp; omega
        have Hn := Lib.hid (all_upto Ha.out HSS.out e)
        clear e
        go_wp2_with fail
        go_roundw
        case rel => exact ⟨k + 1, by omega, by congr 1, Hn.out, rfl⟩
        case measure => simp [intOf]; omega
      · have e1 : ((s.size : Int) != 16) = true := by simp; omega
        have hv : Hid (secB l = false) := secB_no (fun q => e (q.2 s (List.mem_of_getElem? HSS.out)))
        clear e
        go_wp2_with fail
        go_ret
        exact ⟨by rw [hv.out]; try rfl, rfl⟩
    case neg =>
      have cc0 : ¬ (k : Int) < (l.length : Int) := by omega
      have hv : Hid (secB l = true) := secB_iff.2 ⟨by omega, all_of Ha.out (by omega)⟩
      go_wp2_with fail
      go_ret
      exact ⟨by rw [hv.out]; try rfl, rfl⟩

set_option maxHeartbeats 6400000 in
set_option maxRecDepth 100000 in
theorem rightPending_x (v : Value) (d : D) (w : World) (h : DAt w v d) (hf : Fit d) :
    Calls Tryd.prog 71 #[v] w fun r w' => r = .returned (.bool (pndB d)) ∧ Below w.heap.size w w' := by
  obtain ⟨a, c, b, c2, rfl, -, -, HS, HP⟩ := h.form
  have HD := Lib.hid h
  have HF := Lib.hid hf
  have h1 := hf.secs
  have h2 := hf.pend
  obtain ⟨dl, hdl⟩ : ∃ x, d.left = x := ⟨_, rfl⟩
  obtain ⟨dd, hdd⟩ : ∃ x, d.down = x := ⟨_, rfl⟩
  rw [hdl, hdd] at HD
  rw [hdl, hdd]
  clear h hf hdl hdd
  by_cases t3 : 512 < d.pend.length
  · have f3 : 512 < (d.pend.length : Int) := by omega
    have hv : Hid (pndB d = false) := pndB_no (by omega)
    go_enter Tryd.func71, Tryd.ntmps71
    go_wp2_with fail
    go_ret
    exact ⟨by rw [hv.out]; try rfl, Below.new1 _⟩
  have f3 : ¬ 512 < (d.pend.length : Int) := by omega
  go_enter Tryd.func71, Tryd.ntmps71
  go_wp2_with fail
  go_loopw [12] (fun i wr => P2Rel d (w.alloc (.cells #[.slice a d.secs.length c, .slice b d.pend.length c2, .int .i64 dl, .bool dd] 27)) i wr) (fun i _ => d.pend.length - (intOf i).toNat)
  case atStart => exact ⟨0, Nat.zero_le _, rfl, fun j p hj => by omega, Below.refl _ _⟩
  case round =>
    obtain ⟨j, hj, rfl, hall, hbel⟩ := hrel
    have Ha := Lib.hid hall
    have HB0 := Lib.hid hbel
    have Hb := Lib.hid (chain (Below.new1 _) hbel)
    have BXX := (Bx.new w (.slice a d.secs.length c) (.slice b d.pend.length c2) dl dd 27).next hbel
    have x0 := BXX.c0
    have x1 := BXX.c1
    have x2 := BXX.c2
    have x3 := BXX.c3
    have xl := BXX.lt
    have j0 : (0 : Int) ≤ (j : Int) := by omega
    clear hall hbel BXX
    by_cases dd1 : j < d.pend.length
    case pos =>
      have dd0 : (j : Int) < (d.pend.length : Int) := by omega
      obtain ⟨p, hp⟩ : ∃ p, d.pend[j]? = some p := ⟨_, List.getElem?_eq_getElem dd1⟩
      obtain ⟨g, off, rfl, g1, g2, g3⟩ := HP.out j p hp
      have y1 : wr.cell? ⟨g, off + j * 2, none⟩ = some (.int .i64 p.1) := by rw [Hb.out.cell (p := ⟨g, off + j * 2, none⟩) g1]; exact g2
      have y2 : wr.cell? ⟨g, off + j * 2 + 1, none⟩ = some (.string p.2) := by rw [Hb.out.cell (p := ⟨g, off + j * 2 + 1, none⟩) g1]; exact g3
      have y3 : g < wr.heap.size := Nat.lt_of_lt_of_le g1 Hb.out.size
      have pb := HF.out.s2 p (List.mem_of_getElem? hp)
      have Hb2 : Hid (Below w.heap.size w (wr.alloc (.cells #[.int .i64 p.1, .string p.2] 66))) := chain Hb.out (Below.new1 _)
      have Hb3 : Hid (Below (w.alloc (.cells #[.slice a d.secs.length c, .slice (some ⟨g, off, none⟩) d.pend.length c2, .int .i64 dl, .bool dd] 27)).heap.size (w.alloc (.cells #[.slice a d.secs.length c, .slice (some ⟨g, off, none⟩) d.pend.length c2, .int .i64 dl, .bool dd] 27)) (wr.alloc (.cells #[.int .i64 p.1, .string p.2] 66))) := chain HB0.out (Below.new1 _)
      have HPP := Lib.hid hp
      obtain ⟨hb, hhb⟩ : ∃ x, hasB d p.1 = x := ⟨_, rfl⟩
      have HHB := Lib.hid hhb
      have HH := Lib.hid (hasSector_x _ d p.1 _ (HD.out.next Hb2.out))
      rw [hhb] at HH
      clear hp g1 g2 g3 hhb
      go_wp2_with fail
      refine HH.out.mono ?_
      rintro r w2 ⟨rfl, b2⟩
      have z1 : w2.cell? ⟨wr.heap.size, 0, none⟩ = some (.int .i64 p.1) := by rw [b2.cell (p := ⟨wr.heap.size, 0, none⟩) (by simp), World.cell?_alloc_new]; rfl
      have z2 : w2.cell? ⟨wr.heap.size, 1, none⟩ = some (.string p.2) := by rw [b2.cell (p := ⟨wr.heap.size, 1, none⟩) (by simp), World.cell?_alloc_new]; rfl
      have z3 : wr.heap.size < w2.heap.size := Nat.lt_of_lt_of_le (by simp) b2.size
      have Hb4 := Lib.hid (chain Hb2.out b2)
      have Hb5 := Lib.hid (chain Hb3.out b2)
      clear b2 Hb2 Hb3 HH x0 x1 x2 x3 xl y1 y2 y3
      cases hb with
      | false =>
        have hv : Hid (pndB d = false) := pndB_no (fun q => by have := q.2 p (List.mem_of_getElem? HPP.out); have := of_decide_eq_false HHB.out; omega)
        go_wp2_with fail
        go_ret
        exact ⟨by rw [hv.out]; try rfl, Hb4.out⟩
      | true =>
        by_cases e3 : p.2.size = 16
        · have f6 : ((p.2.size : Int) != 16) = false := by simp; omega
          have Hn := Lib.hid (all_upto Ha.out HPP.out (show 0 ≤ p.1 ∧ p.1 < (d.secs.length : Int) ∧ p.2.size = 16 from ⟨(of_decide_eq_true HHB.out).1, (of_decide_eq_true HHB.out).2, e3⟩))
          clear e3
          go_wp2_with fail
          go_roundw
          case rel => exact ⟨j + 1, by omega, by congr 1, Hn.out, Hb5.out⟩
          case measure => simp [intOf]; omega
        · have f6 : ((p.2.size : Int) != 16) = true := by simp; omega
          have hv : Hid (pndB d = false) := pndB_no (fun q => e3 (q.2 p (List.mem_of_getElem? HPP.out)).2.2)
          clear e3
          go_wp2_with fail
          go_ret
          exact ⟨by rw [hv.out]; try rfl, Hb4.out⟩
    case neg =>
      have dd0 : ¬ (j : Int) < (d.pend.length : Int) := by omega
      have hv : Hid (pndB d = true) := pndB_iff.2 ⟨by omega, all_of Ha.out (by omega)⟩
      go_wp2_with fail
      go_ret
      exact ⟨by rw [hv.out]; try rfl, Hb.out⟩

end Go.Proofs.YtemldlhhlneleaaDoor
