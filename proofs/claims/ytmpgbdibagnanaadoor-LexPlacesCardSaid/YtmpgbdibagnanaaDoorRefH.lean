/-
  The reference's Same and Like.
-/
import Derived.Test.YtmpgbdibagnanaaDoorRefG
import Derived.Deep.QuietTactic
import Derived.BigQuiet
namespace Go.Proofs.YtmpgbdibagnanaaDoor
open Go.RowKit

/-- it answers whether p -/
def SmPost (p : Prop) (w : World) (e : Ending) (w' : World) : Prop := ∃ r : Bool, (r = true ↔ p) ∧ e = .returned (.bool r) ∧ Below w.heap.size w w'
theorem sm_yes {p : Prop} {w w' : World} (h : p) (hb : Below w.heap.size w w') : SmPost p w (.returned (.bool true)) w' := ⟨true, ⟨fun _ => h, fun _ => rfl⟩, rfl, hb⟩
theorem sm_no {p : Prop} {w w' : World} (h : ¬ p) (hb : Below w.heap.size w w') : SmPost p w (.returned (.bool false)) w' := ⟨false, ⟨fun h => (Bool.noConfusion h), fun hp => absurd hp h⟩, rfl, hb⟩

def SRel {α : Type} (xs ys : List α) (w : World) (i : Value) (wr : World) : Prop := ∃ k : Nat, k ≤ xs.length ∧ i = .int .i64 k ∧ xs.take k = ys.take k ∧ Below w.heap.size w wr

theorem same_step {α : Type} {xs ys : List α} {k : Nat} {x y : α} (h : xs.take k = ys.take k) (hx : xs[k]? = some x) (hy : ys[k]? = some y) (e : x = y) : xs.take (k + 1) = ys.take (k + 1) := by
  rw [List.take_add_one, List.take_add_one, h, hx, hy, e]
theorem same_no {α : Type} {xs ys : List α} {k : Nat} {x y : α} (hx : xs[k]? = some x) (hy : ys[k]? = some y) (e : x ≠ y) : xs ≠ ys := by
  intro h
  subst h
  rw [hx] at hy
  exact e (by simpa using hy)
theorem same_all {α : Type} {xs ys : List α} {k : Nat} (h : xs.take k = ys.take k) (hx : k = xs.length) (hy : xs.length = ys.length) : xs = ys := by
  rw [List.take_of_length_le (by omega), List.take_of_length_le (by omega)] at h
  exact h

theorem below_drewN {B : Nat} {a w : World} (h : Below B a w) (n : Nat) : Below B a (w.drewN n) := ⟨h.os, h.tape, h.output, h.size, h.block⟩

theorem ti_ext {t u : TI} (h1 : t.kind = u.kind) (h2 : t.text = u.text) (h3 : t.n = u.n) (h4 : t.pos = u.pos) : t = u := by
  obtain ⟨a, b, c, d⟩ := t
  obtain ⟨a', b', c', d'⟩ := u
  simp only at h1 h2 h3 h4
  rw [h1, h2, h3, h4]

theorem text_eq {a b : List UInt8} (h : a = b) : ((mk a).toList == (mk b).toList) = true := by simp [h]
theorem text_ne {a b : List UInt8} (h : ¬ a = b) : ((mk a).toList == (mk b).toList) = false := by rw [beq_eq_false_iff_ne, toList_mk, toList_mk]; exact h
theorem int_eq {a b : Int} (h : a = b) : (a == b) = true := by simp [h]
theorem int_ne {a b : Int} (h : ¬ a = b) : (a == b) = false := by rw [beq_eq_false_iff_ne]; exact h
theorem int_eq' {a b : Int} (h : a = b) : (a != b) = false := by simp [h]
theorem int_ne' {a b : Int} (h : ¬ a = b) : (a != b) = true := by rw [bne_iff_ne]; exact h

set_option maxHeartbeats 6400000 in
theorem Same_x (a b : Value) (xs ys : List TI) (w : World) (ha : TAt w a xs) (hb : TAt w b ys) (hn : xs.length ≤ 1099511627776) :
    Calls Tryd.prog 17 #[a, b] w fun e w' => SmPost (xs = ys) w e w' := by
  obtain ⟨aa, ca, rfl, hca⟩ := ha
  obtain ⟨ab, cb, rfl, hcb⟩ := hb
  by_cases hlen : xs.length = ys.length
  · have hbne : ((xs.length : Int) != (ys.length : Int)) = false := by simp [hlen]
    have Hlen := Lib.hid hlen
    clear hlen
    go_enter Tryd.func17, Tryd.ntmps17
    go_wp2_with fail
    go_loopw [5] (fun i wr => SRel xs ys w i wr) (fun i _ => xs.length - (intOf i).toNat)
    case atStart => exact ⟨0, Nat.zero_le _, rfl, by simp, Below.refl _ _⟩
    case round =>
      obtain ⟨k, hk, rfl, ht, hbl⟩ := hrel
      by_cases hlt : k < xs.length
      · have hlt2 : k < ys.length := by have := Hlen.out; omega
        have hx : xs[k]? = some xs[k] := List.getElem?_eq_getElem hlt
        have hy : ys[k]? = some ys[k] := List.getElem?_eq_getElem hlt2
        obtain ⟨x, ex⟩ : ∃ x, x = xs[k] := ⟨_, rfl⟩
        obtain ⟨y, ey⟩ : ∃ y, y = ys[k] := ⟨_, rfl⟩
        rw [← ex] at hx
        rw [← ey] at hy
        obtain ⟨b1, o1, rfl, hb1, p0, p1, p2, p3⟩ := hca k x hx
        obtain ⟨b2, o2, rfl, hb2, q0, q1, q2, q3⟩ := hcb k y hy
        have hr1 : ∀ o, wr.cell? ⟨b1, o, none⟩ = w.cell? ⟨b1, o, none⟩ := fun o => hbl.cell (p := ⟨b1, o, none⟩) hb1
        have hr2 : ∀ o, wr.cell? ⟨b2, o, none⟩ = w.cell? ⟨b2, o, none⟩ := fun o => hbl.cell (p := ⟨b2, o, none⟩) hb2
        rw [← hr1] at p0 p1 p2 p3
        rw [← hr2] at q0 q1 q2 q3
        clear hr1 hr2 hca hcb ex ey
        have Hstep := Lib.hid (fun e => same_step ht hx hy e)
        have Hno := Lib.hid (fun e => same_no hx hy e)
        clear ht hx hy
        by_cases e1 : x.kind = y.kind
        · have f1 := int_eq e1
          by_cases e2 : x.text = y.text
          · have f2 := text_eq e2
            by_cases e3 : x.n = y.n
            · have f3 := int_eq e3
              by_cases e4 : x.pos = y.pos
              · have f4 := int_eq e4
                have Hs := Lib.hid (Hstep.out (ti_ext e1 e2 e3 e4))
                clear e1 e2 e3 e4
                go_wp2
                go_region
                all_goals go_wp2
                all_goals go_roundw
                case rel => exact ⟨k + 1, by omega, rfl, Hs.out, (by repeat (first | exact hbl | apply Below.drew | apply below_drewN))⟩
                case measure => simp [intOf]; omega
              · have f4 := int_ne e4
                have Hs := Lib.hid (Hno.out (fun h => e4 (by rw [h])))
                clear e1 e2 e3 e4
                go_wp2
                go_region
                all_goals go_wp2
                all_goals go_ret
                all_goals exact sm_no Hs.out (by repeat (first | exact hbl | apply Below.drew | apply below_drewN))
            · have f3 := int_ne e3
              have Hs := Lib.hid (Hno.out (fun h => e3 (by rw [h])))
              clear e1 e2 e3
              go_wp2
              go_region
              all_goals go_wp2
              all_goals go_ret
              all_goals exact sm_no Hs.out (by repeat (first | exact hbl | apply Below.drew | apply below_drewN))
          · have f2 := text_ne e2
            have Hs := Lib.hid (Hno.out (fun h => e2 (by rw [h])))
            clear e1 e2
            go_wp2
            go_region
            all_goals go_wp2
            all_goals go_ret
            all_goals exact sm_no Hs.out (by repeat (first | exact hbl | apply Below.drew | apply below_drewN))
        · have f1 := int_ne e1
          have Hs := Lib.hid (Hno.out (fun h => e1 (by rw [h])))
          clear e1
          go_wp2
          go_region
          all_goals go_wp2
          all_goals go_ret
          all_goals exact sm_no Hs.out (by repeat (first | exact hbl | apply Below.drew | apply below_drewN))
      · have hs := Lib.hid (same_all ht (by omega) (Hlen.out))
        clear ht
        go_wp2
        go_ret
        exact sm_yes hs.out hbl
  · have hbne : ((xs.length : Int) != (ys.length : Int)) = true := by rw [bne_iff_ne]; omega
    have hne : Hid (¬ (xs = ys)) := fun h => hlen (by rw [h])
    clear hlen
    go_enter Tryd.func17, Tryd.ntmps17
    go_wp2
    go_ret
    exact sm_no hne.out (Below.refl _ _)

def stripI (t : TI) : Int × List UInt8 × Int := (t.kind, t.text, t.n)
theorem strip_ext {x y : TI} (h1 : x.kind = y.kind) (h2 : x.text = y.text) (h3 : x.n = y.n) : stripI x = stripI y := by unfold stripI; rw [h1, h2, h3]
theorem strip_k {x y : TI} (h : stripI x = stripI y) : x.kind = y.kind := by simp only [stripI, Prod.mk.injEq] at h; exact h.1
theorem strip_t {x y : TI} (h : stripI x = stripI y) : x.text = y.text := by simp only [stripI, Prod.mk.injEq] at h; exact h.2.1
theorem strip_n {x y : TI} (h : stripI x = stripI y) : x.n = y.n := by simp only [stripI, Prod.mk.injEq] at h; exact h.2.2

set_option maxHeartbeats 6400000 in
theorem Like_x (a b : Value) (xs ys : List TI) (w : World) (ha : TAt w a xs) (hb : TAt w b ys) (hn : xs.length ≤ 1099511627776) :
    Calls Tryd.prog 22 #[a, b] w fun e w' => SmPost (xs.map stripI = ys.map stripI) w e w' := by
  obtain ⟨aa, ca, rfl, hca⟩ := ha
  obtain ⟨ab, cb, rfl, hcb⟩ := hb
  by_cases hlen : xs.length = ys.length
  · have hbne : ((xs.length : Int) != (ys.length : Int)) = false := by simp [hlen]
    have Hlen := Lib.hid hlen
    clear hlen
    go_enter Tryd.func22, Tryd.ntmps22
    go_wp2_with fail
    go_loopw [5] (fun i wr => SRel (xs.map stripI) (ys.map stripI) w i wr) (fun i _ => xs.length - (intOf i).toNat)
    case atStart => exact ⟨0, Nat.zero_le _, rfl, by simp, Below.refl _ _⟩
    case round =>
      obtain ⟨k, hk, rfl, ht, hbl⟩ := hrel
      rw [List.length_map] at hk
      by_cases hlt : k < xs.length
      · have hlt2 : k < ys.length := by have := Hlen.out; omega
        have hx : xs[k]? = some xs[k] := List.getElem?_eq_getElem hlt
        have hy : ys[k]? = some ys[k] := List.getElem?_eq_getElem hlt2
        obtain ⟨x, ex⟩ : ∃ x, x = xs[k] := ⟨_, rfl⟩
        obtain ⟨y, ey⟩ : ∃ y, y = ys[k] := ⟨_, rfl⟩
        rw [← ex] at hx
        rw [← ey] at hy
        obtain ⟨b1, o1, rfl, hb1, p0, p1, p2, p3⟩ := hca k x hx
        obtain ⟨b2, o2, rfl, hb2, q0, q1, q2, q3⟩ := hcb k y hy
        have hr1 : ∀ o, wr.cell? ⟨b1, o, none⟩ = w.cell? ⟨b1, o, none⟩ := fun o => hbl.cell (p := ⟨b1, o, none⟩) hb1
        have hr2 : ∀ o, wr.cell? ⟨b2, o, none⟩ = w.cell? ⟨b2, o, none⟩ := fun o => hbl.cell (p := ⟨b2, o, none⟩) hb2
        rw [← hr1] at p0 p1 p2 p3
        rw [← hr2] at q0 q1 q2 q3
        clear hr1 hr2 hca hcb ex ey
        have Hstep := Lib.hid (fun e => same_step ht (show (xs.map stripI)[k]? = some (stripI x) by rw [List.getElem?_map, hx]; rfl) (show (ys.map stripI)[k]? = some (stripI y) by rw [List.getElem?_map, hy]; rfl) e)
        have Hno := Lib.hid (fun e => same_no (show (xs.map stripI)[k]? = some (stripI x) by rw [List.getElem?_map, hx]; rfl) (show (ys.map stripI)[k]? = some (stripI y) by rw [List.getElem?_map, hy]; rfl) e)
        clear ht hx hy
        by_cases e1 : x.kind = y.kind
        · have f1 := int_eq' e1
          by_cases e2 : x.text = y.text
          · have f2 := text_eq e2
            by_cases e3 : x.n = y.n
            · have f3 := int_eq' e3
              have Hs := Lib.hid (Hstep.out (strip_ext e1 e2 e3))
              clear e1 e2 e3
              go_wp2
              go_quiet (fail)
              all_goals go_wp2
              all_goals go_roundw
              case rel => exact ⟨k + 1, by rw [List.length_map]; omega, rfl, Hs.out, (by repeat (first | exact hbl | apply Below.drew | apply below_drewN))⟩
              case measure => simp [intOf]; omega
            · have f3 := int_ne' e3
              have Hs := Lib.hid (Hno.out (fun h => e3 (by exact strip_n h)))
              clear e1 e2 e3
              go_wp2
              go_quiet (fail)
              all_goals go_wp2
              all_goals go_ret
              all_goals exact sm_no Hs.out (by repeat (first | exact hbl | apply Below.drew | apply below_drewN))
          · have f2 := text_ne e2
            have Hs := Lib.hid (Hno.out (fun h => e2 (by exact strip_t h)))
            clear e1 e2
            go_wp2
            go_quiet (fail)
            all_goals go_wp2
            all_goals go_ret
            all_goals exact sm_no Hs.out (by repeat (first | exact hbl | apply Below.drew | apply below_drewN))
        · have f1 := int_ne' e1
          have Hs := Lib.hid (Hno.out (fun h => e1 (by exact strip_k h)))
          clear e1
          go_wp2
          go_quiet (fail)
          all_goals go_wp2
          all_goals go_ret
          all_goals exact sm_no Hs.out (by repeat (first | exact hbl | apply Below.drew | apply below_drewN))
      · have hs := Lib.hid (same_all ht (by rw [List.length_map]; omega) (by rw [List.length_map, List.length_map]; exact Hlen.out))
        clear ht
        go_wp2
        go_ret
        exact sm_yes hs.out hbl
  · have hbne : ((xs.length : Int) != (ys.length : Int)) = true := by rw [bne_iff_ne]; omega
    have hne : Hid (¬ (xs.map stripI = ys.map stripI)) := fun h => hlen (by have := congrArg List.length h; rw [List.length_map, List.length_map] at this; exact this)
    clear hlen
    go_enter Tryd.func22, Tryd.ntmps22
    go_wp2
    go_ret
    exact sm_no hne.out (Below.refl _ _)

end Go.Proofs.YtmpgbdibagnanaaDoor
