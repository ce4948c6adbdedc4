/-
  The reference's Check and up.
-/
import Derived.Test.YtemldlhhlneleaaDoorRefA
namespace Go.Proofs.YtemldlhhlneleaaDoor
open Go.RowKit Dk

/-- a disk in a block of its own -/
structure Bx (sv pv : Value) (l : Int) (dn : Bool) (g : Nat) (W : World) : Prop where
  lt : g < W.heap.size
  c0 : W.cell? ⟨g, 0, none⟩ = some sv
  c1 : W.cell? ⟨g, 1, none⟩ = some pv
  c2 : W.cell? ⟨g, 2, none⟩ = some (.int .i64 l)
  c3 : W.cell? ⟨g, 3, none⟩ = some (.bool dn)
  fz : ∀ o, W.frozen? ⟨g, o, none⟩ = false
theorem Bx.nextB {sv pv : Value} {l : Int} {dn : Bool} {g n : Nat} {W W' : World} (h : Bx sv pv l dn g W) (hb : Below n W W') (hn : g < n) : Bx sv pv l dn g W' := by
  refine ⟨Nat.lt_of_lt_of_le h.lt hb.size, ?_, ?_, ?_, ?_, fun o => by rw [hb.frozen (p := ⟨g, o, none⟩) hn]; exact h.fz o⟩
  · rw [hb.cell (p := ⟨g, 0, none⟩) hn]; exact h.c0
  · rw [hb.cell (p := ⟨g, 1, none⟩) hn]; exact h.c1
  · rw [hb.cell (p := ⟨g, 2, none⟩) hn]; exact h.c2
  · rw [hb.cell (p := ⟨g, 3, none⟩) hn]; exact h.c3
theorem Bx.next {sv pv : Value} {l : Int} {dn : Bool} {g : Nat} {W W' : World} (h : Bx sv pv l dn g W) (hb : Below W.heap.size W W') : Bx sv pv l dn g W' := h.nextB hb h.lt
theorem Bx.new (w : World) (sv pv : Value) (l : Int) (dn : Bool) (T : TypeId) : Bx sv pv l dn w.heap.size (w.alloc (.cells #[sv, pv, .int .i64 l, .bool dn] T)) := by
  refine ⟨by simp, ?_, ?_, ?_, ?_, fun o => by simp⟩ <;> rw [World.cell?_alloc_new] <;> rfl
theorem chk_no {d : D} (h : checkB d = false) : chk d = 1 := by unfold chk; rw [h]; rfl
theorem chk_yes {d : D} (h : checkB d = true) : chk d = 0 := by unfold chk; rw [h]; rfl
theorem num_not {d : D} (h : ¬ (1 ≤ d.secs.length ∧ d.secs.length ≤ 512 ∧ d.pend.length ≤ 512 ∧ -1 ≤ d.left ∧ d.left ≤ 512)) : chk d = 1 := chk_no (by
  rw [← Bool.not_eq_true]
  intro e
  exact h (check_iff.1 e).1)
theorem sec_not {d : D} {k : Nat} {s : B} (hs : d.secs[k]? = some s) (h : s.size ≠ 16) : chk d = 1 := chk_no (by
  rw [← Bool.not_eq_true]
  intro e
  exact h ((check_iff.1 e).2.1 s (List.mem_of_getElem? hs)))
theorem pend_not {d : D} {k : Nat} {p : Int × B} (hp : d.pend[k]? = some p) (h : ¬ (0 ≤ p.1 ∧ p.1 < (d.secs.length : Int) ∧ p.2.size = 16)) : chk d = 1 := chk_no (by
  rw [← Bool.not_eq_true]
  intro e
  exact h ((check_iff.1 e).2.2.1 p (List.mem_of_getElem? hp)))
theorem off_not {d : D} (h1 : d.down = true) (h : ¬ (d.pend = [] ∧ d.left = -1)) : chk d = 1 := chk_no (by
  rw [← Bool.not_eq_true]
  intro e
  exact h ((check_iff.1 e).2.2.2 h1))
theorem all_upto {α : Type} {l : List α} {P : α → Prop} {k : Nat} {x : α} (h : ∀ (j : Nat) (y : α), j < k → l[j]? = some y → P y) (hx : l[k]? = some x) (hp : P x) : ∀ (j : Nat) (y : α), j < k + 1 → l[j]? = some y → P y := by
  intro j y hj hy
  rcases Nat.lt_or_ge j k with c | c
  · exact h j y c hy
  · obtain rfl : j = k := by omega
    rw [hx] at hy
    simp only [Option.some.injEq] at hy
    subst hy
    exact hp
theorem all_of {α : Type} {l : List α} {P : α → Prop} {k : Nat} (h : ∀ (j : Nat) (y : α), j < k → l[j]? = some y → P y) (hk : l.length ≤ k) : ∀ x ∈ l, P x := by
  intro x hx
  obtain ⟨j, hj⟩ := List.getElem?_of_mem hx
  have := (List.getElem?_eq_some_iff.1 hj).1
  exact h j x (by omega) hj
def C1Rel (d : D) (w : World) (i : Value) (wr : World) : Prop := ∃ k : Nat, k ≤ d.secs.length ∧ i = .int .i64 (k : Int) ∧ (∀ (j : Nat) (s : B), j < k → d.secs[j]? = some s → s.size = 16) ∧ w = wr
def C2Rel (d : D) (w : World) (i : Value) (wr : World) : Prop := ∃ k : Nat, k ≤ d.pend.length ∧ i = .int .i64 (k : Int) ∧ (∀ (j : Nat) (p : Int × B), j < k → d.pend[j]? = some p → 0 ≤ p.1 ∧ p.1 < (d.secs.length : Int) ∧ p.2.size = 16) ∧ Below w.heap.size w wr

set_option maxHeartbeats 6400000 in
set_option maxRecDepth 100000 in
theorem Check_x (v : Value) (d : D) (w : World) (h : DAt w v d) (hf : Fit d) :
    Calls Tryd.prog 44 #[v] w fun r w' => r = .returned (.int .i64 (chk d)) ∧ Below w.heap.size w w' := by
  obtain ⟨a, c, b, c2, rfl, -, -, HS, HP⟩ := h.form
  have HD := Lib.hid h
  have HF := Lib.hid hf
  have h1 := hf.secs
  have h2 := hf.pend
  have h3 := hf.left
  unfold I64 at h3
  obtain ⟨dl, hdl⟩ : ∃ x, d.left = x := ⟨_, rfl⟩
  obtain ⟨dd, hdd⟩ : ∃ x, d.down = x := ⟨_, rfl⟩
  rw [hdl] at h3
  rw [hdl, hdd]
  have HL := Lib.hid hdl
  have HDN := Lib.hid hdd
  clear h hf hdl hdd
  by_cases t1 : d.secs.length < 1
  · have f1 : (d.secs.length : Int) < 1 := by omega
    have hv : Hid (chk d = 1) := num_not (by rw [HL.out]; omega)
    go_enter Tryd.func44, Tryd.ntmps44
    go_wp2_with fail
    go_ret
    exact ⟨by rw [hv.out]; try rfl, Below.new1 _⟩
  have f1 : ¬ (d.secs.length : Int) < 1 := by omega
  by_cases t2 : 512 < d.secs.length
  · have f2 : 512 < (d.secs.length : Int) := by omega
    have hv : Hid (chk d = 1) := num_not (by rw [HL.out]; omega)
    go_enter Tryd.func44, Tryd.ntmps44
    go_wp2_with fail
    go_ret
    exact ⟨by rw [hv.out]; try rfl, Below.new1 _⟩
  have f2 : ¬ 512 < (d.secs.length : Int) := by omega
  by_cases t3 : 512 < d.pend.length
  · have f3 : 512 < (d.pend.length : Int) := by omega
    have hv : Hid (chk d = 1) := num_not (by rw [HL.out]; omega)
    go_enter Tryd.func44, Tryd.ntmps44
    go_wp2_with fail
    go_ret
    exact ⟨by rw [hv.out]; try rfl, Below.new1 _⟩
  have f3 : ¬ 512 < (d.pend.length : Int) := by omega
  by_cases t4 : dl < -1
  · have hv : Hid (chk d = 1) := num_not (by rw [HL.out]; omega)
    go_enter Tryd.func44, Tryd.ntmps44
    go_wp2_with fail
    go_ret
    exact ⟨by rw [hv.out]; try rfl, Below.new1 _⟩
  by_cases t5 : 512 < dl
  · have hv : Hid (chk d = 1) := num_not (by rw [HL.out]; omega)
    go_enter Tryd.func44, Tryd.ntmps44
    go_wp2_with fail
    go_ret
    exact ⟨by rw [hv.out]; try rfl, Below.new1 _⟩
  go_enter Tryd.func44, Tryd.ntmps44
  go_wp2_with fail
  go_loopw [3] (fun i wr => C1Rel d (w.alloc (.cells #[.slice a d.secs.length c, .slice b d.pend.length c2, .int .i64 dl, .bool dd] 27)) i wr) (fun i _ => d.secs.length - (intOf i).toNat)
  case atStart => exact ⟨0, Nat.zero_le _, rfl, fun j s hj => by omega, rfl⟩
  case round =>
    obtain ⟨k, hk, rfl, hall, rfl⟩ := hrel
    have Ha := Lib.hid hall
    have k0 : (0 : Int) ≤ (k : Int) := by omega
    clear hall
    by_cases cc : k < d.secs.length
    case pos =>
      have cc0 : (k : Int) < (d.secs.length : Int) := by omega
      obtain ⟨s, hs⟩ : ∃ s, d.secs[k]? = some s := ⟨_, List.getElem?_eq_getElem cc⟩
      obtain ⟨g, off, rfl, g1, g2⟩ := HS.out k s hs
      have sb := HF.out.s1 s (List.mem_of_getElem? hs)
      have HSS := Lib.hid hs
      clear hs
      by_cases e : s.size = 16
      · have e1 : ((s.size : Int) != 16) = false := by simp; omega
        have Hn := Lib.hid (all_upto Ha.out HSS.out e)
        clear e
        go_wp2_with fail
        go_roundw
        case rel => exact ⟨k + 1, by omega, by congr 1, Hn.out, rfl⟩
        case measure => simp [intOf]; omega
      · have e1 : ((s.size : Int) != 16) = true := by simp; omega
        have hv : Hid (chk d = 1) := sec_not HSS.out e
        clear e
        go_wp2_with fail
        go_ret
        exact ⟨by rw [hv.out]; try rfl, Below.new1 _⟩
    case neg =>
      have cc0 : ¬ (k : Int) < (d.secs.length : Int) := by omega
      have HSA := Lib.hid (all_of Ha.out (by omega))
      clear Ha
      go_wp2_with fail
      go_loopw [4] (fun i wr => C2Rel d (w.alloc (.cells #[.slice a d.secs.length c, .slice b d.pend.length c2, .int .i64 dl, .bool dd] 27)) i wr) (fun i _ => d.pend.length - (intOf i).toNat)
      case atStart => exact ⟨0, Nat.zero_le _, rfl, fun j p hj => by omega, Below.refl _ _⟩
      case round =>
        obtain ⟨j, hj, rfl, hall, hbel⟩ := hrel
        have Ha := Lib.hid hall
        have HB0 := Lib.hid hbel
        have Hb := Lib.hid (chain (Below.new1 _) hbel)
        have BXX := (Bx.new w (.slice a d.secs.length c) (.slice b d.pend.length c2) dl dd 27).next hbel
        have x0 := BXX.c0
        have x1 := BXX.c1
        have x2 := BXX.c2
        have x3 := BXX.c3
        have xl := BXX.lt
        have j0 : (0 : Int) ≤ (j : Int) := by omega
        clear hall hbel BXX
        by_cases dd1 : j < d.pend.length
        case pos =>
          have dd0 : (j : Int) < (d.pend.length : Int) := by omega
          obtain ⟨p, hp⟩ : ∃ p, d.pend[j]? = some p := ⟨_, List.getElem?_eq_getElem dd1⟩
          obtain ⟨g, off, rfl, g1, g2, g3⟩ := HP.out j p hp
          have y1 : wr.cell? ⟨g, off + j * 2, none⟩ = some (.int .i64 p.1) := by rw [Hb.out.cell (p := ⟨g, off + j * 2, none⟩) g1]; exact g2
          have y2 : wr.cell? ⟨g, off + j * 2 + 1, none⟩ = some (.string p.2) := by rw [Hb.out.cell (p := ⟨g, off + j * 2 + 1, none⟩) g1]; exact g3
          have y3 : g < wr.heap.size := Nat.lt_of_lt_of_le g1 Hb.out.size
          have pb := HF.out.s2 p (List.mem_of_getElem? hp)
          have Hb2 : Hid (Below w.heap.size w (wr.alloc (.cells #[.int .i64 p.1, .string p.2] 66))) := chain Hb.out (Below.new1 _)
          have Hb3 : Hid (Below (w.alloc (.cells #[.slice a d.secs.length c, .slice (some ⟨g, off, none⟩) d.pend.length c2, .int .i64 dl, .bool dd] 27)).heap.size (w.alloc (.cells #[.slice a d.secs.length c, .slice (some ⟨g, off, none⟩) d.pend.length c2, .int .i64 dl, .bool dd] 27)) (wr.alloc (.cells #[.int .i64 p.1, .string p.2] 66))) := chain HB0.out (Below.new1 _)
          have HPP := Lib.hid hp
          clear hp g1 g2 g3
          by_cases e1 : p.1 < 0
          · have hv : Hid (chk d = 1) := pend_not HPP.out (by omega)
            go_wp2_with fail
            go_ret
            exact ⟨by rw [hv.out]; try rfl, Hb2.out⟩
          by_cases e2 : (d.secs.length : Int) ≤ p.1
          · have hv : Hid (chk d = 1) := pend_not HPP.out (by omega)
            go_wp2_with fail
            go_ret
            exact ⟨by rw [hv.out]; try rfl, Hb2.out⟩
          by_cases e3 : p.2.size = 16
          · have f6 : ((p.2.size : Int) != 16) = false := by simp; omega
            have Hn := Lib.hid (all_upto Ha.out HPP.out (show 0 ≤ p.1 ∧ p.1 < (d.secs.length : Int) ∧ p.2.size = 16 from ⟨by omega, by omega, e3⟩))
            clear e3
            go_wp2_with fail
            go_roundw
            case rel => exact ⟨j + 1, by omega, by congr 1, Hn.out, Hb3.out⟩
            case measure => simp [intOf]; omega
          · have f6 : ((p.2.size : Int) != 16) = true := by simp; omega
            have hv : Hid (chk d = 1) := pend_not HPP.out (by omega)
            clear e3
            go_wp2_with fail
            go_ret
            exact ⟨by rw [hv.out]; try rfl, Hb2.out⟩
        case neg =>
          have dd0 : ¬ (j : Int) < (d.pend.length : Int) := by omega
          have HPA := Lib.hid (all_of Ha.out (by omega))
          cases dd with
          | false =>
            have hv : Hid (chk d = 0) := chk_yes (check_iff.2 ⟨by rw [HL.out]; omega, HSA.out, HPA.out, fun e => by rw [HDN.out] at e; cases e⟩)
            go_wp2_with fail
            go_ret
            exact ⟨by rw [hv.out]; try rfl, Hb.out⟩
          | true =>
            by_cases e1 : 0 < d.pend.length
            · have f7 : 0 < (d.pend.length : Int) := by omega
              have hv : Hid (chk d = 1) := off_not HDN.out (fun h => by rw [h.1] at e1; simp at e1)
              go_wp2_with fail
              go_ret
              exact ⟨by rw [hv.out]; try rfl, Hb.out⟩
            · have f7 : ¬ 0 < (d.pend.length : Int) := by omega
              have hnil : d.pend = [] := List.eq_nil_of_length_eq_zero (by omega)
              by_cases e2 : dl = -1
              · have f8 : (dl != -1) = false := by simp; omega
                have hv : Hid (chk d = 0) := chk_yes (check_iff.2 ⟨by rw [HL.out]; omega, HSA.out, HPA.out, fun _ => ⟨hnil, by rw [HL.out]; exact e2⟩⟩)
                clear e2 hnil
                go_wp2_with fail
                go_ret
                exact ⟨by rw [hv.out]; try rfl, Hb.out⟩
              · have f8 : (dl != -1) = true := by simp; omega
                have hv : Hid (chk d = 1) := off_not HDN.out (fun h => e2 (by rw [← HL.out]; exact h.2))
                clear e2 hnil
                go_wp2_with fail
                go_ret
                exact ⟨by rw [hv.out]; try rfl, Hb.out⟩

theorem up_x (v : Value) (d : D) (w : World) (h : DAt w v d) (hf : Fit d) :
    Calls Tryd.prog 43 #[v] w fun r w' => r = .returned (.int .i64 (upE d)) ∧ Below w.heap.size w w' := by
  obtain ⟨a, c, b, c2, rfl, -, -, -, -⟩ := h.form
  obtain ⟨dl, hdl⟩ : ∃ x, d.left = x := ⟨_, rfl⟩
  obtain ⟨dd, hdd⟩ : ∃ x, d.down = x := ⟨_, rfl⟩
  rw [hdl, hdd] at h
  have HC := Lib.hid (Check_x _ d _ (h.next (Below.new1 (.cells #[.slice a d.secs.length c, .slice b d.pend.length c2, .int .i64 dl, .bool dd] 27))) hf)
  rw [hdl, hdd]
  have HDN := Lib.hid hdd
  clear h hf hdl hdd
  obtain ⟨cb, hcb⟩ : ∃ x, checkB d = x := ⟨_, rfl⟩
  have HCB := Lib.hid hcb
  clear hcb
  go_enter Tryd.func43, Tryd.ntmps43
  go_wp2_with fail
  refine HC.out.mono ?_
  rintro r w1 ⟨rfl, b1⟩
  have x3 := ((Bx.new w (.slice a d.secs.length c) (.slice b d.pend.length c2) dl dd 27).next b1).c3
  have xl := ((Bx.new w (.slice a d.secs.length c) (.slice b d.pend.length c2) dl dd 27).next b1).lt
  have B1 := Lib.hid (chain (Below.new1 _) b1)
  clear b1 HC
  cases cb with
  | false =>
    have hc : chk d = 1 := chk_no HCB.out
    have hv : Hid (upE d = 1) := by show _ = _; unfold upE; rw [HCB.out]; rfl
    rw [hc]
    clear hc
    go_wp2_with fail
    go_ret
    exact ⟨by rw [hv.out]; try rfl, B1.out⟩
  | true =>
    have hc : chk d = 0 := chk_yes HCB.out
    have hv : Hid (upE d = bif dd then 8 else 0) := by show _ = _; unfold upE; rw [HCB.out, HDN.out]; rfl
    rw [hc]
    clear hc
    cases dd with
    | false =>
      go_wp2_with fail
      go_ret
      exact ⟨by rw [hv.out]; rfl, B1.out⟩
    | true =>
      go_wp2_with fail
      go_ret
      exact ⟨by rw [hv.out]; rfl, B1.out⟩

end Go.Proofs.YtemldlhhlneleaaDoor
