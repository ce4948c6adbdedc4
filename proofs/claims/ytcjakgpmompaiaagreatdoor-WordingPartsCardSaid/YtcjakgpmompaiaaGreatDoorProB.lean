/-
  The program: the functions of names, find.
-/
import Derived.Test.YtcjakgpmompaiaaGreatDoorProA
namespace Go.Proofs.YtcjakgpmompaiaaGreatDoor
open Go.RowKit Rl

theorem LAt.at {T : Type} {w : World} {k n cap j : Nat} {c : T → List Value} {a : Option Addr} {l : List T} {x : T} (h : LAt w k c (.slice a n cap) l) (hx : l[j]? = some x) :
    ∃ b off, a = some ⟨b, off, none⟩ ∧ b < w.heap.size ∧ ∀ (i : Nat) (y : Value), (c x)[i]? = some y → w.cell? ⟨b, off + j * k + i, none⟩ = some y := by
  obtain ⟨a', cap', e, -, h⟩ := h.row
  simp only [Value.slice.injEq] at e
  obtain ⟨rfl, -, rfl⟩ := e
  exact h j (c x) (by rw [List.getElem?_map, hx]; rfl)
theorem LAt.len {T : Type} {w : World} {k n cap : Nat} {c : T → List Value} {a : Option Addr} {l : List T} (h : LAt w k c (.slice a n cap) l) : n = l.length ∧ n ≤ cap := by
  obtain ⟨a', cap', e, hcap, h⟩ := h.row
  simp only [Value.slice.injEq] at e
  obtain ⟨rfl, rfl, rfl⟩ := e
  rw [List.length_map] at hcap ⊢
  exact ⟨rfl, hcap⟩
theorem LAt.shape {T : Type} {w : World} {k : Nat} {c : T → List Value} {v : Value} {l : List T} (h : LAt w k c v l) : ∃ a cap, v = .slice a l.length cap := by
  obtain ⟨a, cap, rfl, -, -⟩ := h.form
  exact ⟨a, cap, rfl⟩
theorem toList_data (b : B) : b.toList = b.data.toList := ByteArray.toList_mk b.data.toList
theorem list_eq {a b : B} (h : a = b) : (a.toList == b.toList) = true := by rw [h]; simp
theorem list_ne {a b : B} (h : a ≠ b) : (a.toList == b.toList) = false := by
  rw [beq_eq_false_iff_ne]
  intro e
  refine h ?_
  rw [toList_data, toList_data] at e
  exact ByteArray.ext (Array.toList_inj.1 e)
/-- no one of the first k names is s -/
def NoN (nms : List B) (s : B) (k : Nat) : Prop := ∀ (j : Nat) (x : B), j < k → nms[j]? = some x → x ≠ s
theorem NoN.next {nms : List B} {s x : B} {k : Nat} (h : NoN nms s k) (hx : nms[k]? = some x) (hn : x ≠ s) : NoN nms s (k + 1) := by
  intro j y hj hy
  by_cases c : j = k
  · subst c
    rw [hx] at hy
    simp only [Option.some.injEq] at hy
    subst hy
    exact hn
  · exact h j y (by omega) hy
theorem NoN.none {nms : List B} {s : B} {k : Nat} (h : NoN nms s k) (hk : nms.length ≤ k) : findV nms s = -1 := find_none (fun j x hx => h j x (by have := (List.getElem?_eq_some_iff.1 hx).1; omega) hx)
theorem map_at {T : Type} {f : T → B} {l : List T} {k : Nat} {x : T} (h : l[k]? = some x) : (l.map f)[k]? = some (f x) := by rw [List.getElem?_map, h]; rfl
def FRel (n : Nat) (nms : List B) (s : B) (w : World) (i : Value) (wr : World) : Prop := ∃ k : Nat, k ≤ n ∧ i = .int .i64 (k : Int) ∧ NoN nms s k ∧ Below w.heap.size w wr

theorem nameB_x (x : B) (w : World) :
    Calls Tryz.prog 95 #[.string x] w fun r w' => r = .returned (.string x) ∧ w = w' := by
  go_enter Tryz.func95, Tryz.ntmps95
  go_wp2_with fail
  go_ret
  exact ⟨rfl, rfl⟩
set_option maxHeartbeats 1600000 in
theorem findB_x (v : Value) (l : List B) (s : B) (w : World) (h : SAt w v l) (hl : Sz l.length) :
    Calls Tryz.prog 157 #[v, .func (.func 95) #[] #[], .string s] w fun r w' => r = .returned (.int .i64 (findV l s)) ∧ Below w.heap.size w w' := by
  obtain ⟨a, cap, rfl⟩ := h.shape
  have HL := Lib.hid h
  clear h
  go_enter Tryz.func157, Tryz.ntmps157
  go_wp2_with fail
  go_loopw [11] (fun i wr => FRel l.length l s w i wr) (fun i _ => l.length - (intOf i).toNat)
  case atStart => exact ⟨0, Nat.zero_le _, rfl, fun j x hj => by omega, Below.refl _ _⟩
  case round =>
    obtain ⟨k, hk, rfl, hall, hbw⟩ := hrel
    have Ha := Lib.hid hall
    have HB := Lib.hid hbw
    have k0 : (0 : Int) ≤ (k : Int) := by omega
    clear hall hbw
    by_cases c : k < l.length
    case neg =>
      have c0 : ¬ (k : Int) < (l.length : Int) := by omega
      have hv : Hid (findV l s = -1) := Ha.out.none (by omega)
      go_wp2_with fail
      go_ret
      exact ⟨by rw [hv.out]; try rfl, HB.out⟩
    case pos =>
      have c0 : (k : Int) < (l.length : Int) := by omega
      obtain ⟨x, hx⟩ : ∃ x, l[k]? = some x := ⟨_, List.getElem?_eq_getElem c⟩
      have hn : l[k]? = some x := hx
      have HN := Lib.hid hn
      obtain ⟨b, off, rfl, hb, hc⟩ := (HL.out.next HB.out).at hx
      have t0 : wr.cell? ⟨b, off + k, none⟩ = some (.string x) := (by have := hc 0 _ rfl; rw [Nat.mul_one, Nat.add_zero] at this; exact this)
      clear hx hc hn
      by_cases e : x = s
      · have HE := Lib.hid e
        have e1 : (x.toList == s.toList) = true := list_eq e
        have hv : Hid (findV l s = (k : Int)) := find_at (by rw [HN.out, HE.out]) Ha.out
        clear e
        go_wp2_with fail
        refine (nameB_x x _).mono ?_
        rintro r w1 ⟨rfl, rfl⟩
        go_wp2_with fail
        go_ret
        exact ⟨by rw [hv.out]; try rfl, HB.out⟩
      · have HE := Lib.hid e
        have e1 : (x.toList == s.toList) = false := list_ne e
        have HX := Lib.hid (Ha.out.next HN.out e)
        clear e
        go_wp2_with fail
        refine (nameB_x x _).mono ?_
        rintro r w1 ⟨rfl, rfl⟩
        go_wp2_with fail
        go_roundw
        case rel => exact ⟨k + 1, by omega, by congr 1, HX.out, HB.out⟩
        case measure => simp [intOf]; omega

theorem nameCty_x (x : Cty) (w : World) :
    Calls Tryz.prog 108 #[vCty x] w fun r w' => r = .returned (.string x.nm) ∧ Below w.heap.size w w' := by
  go_enter Tryz.func108, Tryz.ntmps108
  go_wp2_with fail
  go_ret
  exact ⟨rfl, Below.new1 _⟩
set_option maxHeartbeats 1600000 in
theorem findCty_x (v : Value) (l : List Cty) (s : B) (w : World) (h : CAt w v l) (hl : Sz l.length) :
    Calls Tryz.prog 147 #[v, .func (.func 108) #[] #[], .string s] w fun r w' => r = .returned (.int .i64 (findV (l.map Cty.nm) s)) ∧ Below w.heap.size w w' := by
  obtain ⟨a, cap, rfl⟩ := h.shape
  have HL := Lib.hid h
  clear h
  go_enter Tryz.func147, Tryz.ntmps147
  go_wp2_with fail
  go_loopw [11] (fun i wr => FRel l.length (l.map Cty.nm) s w i wr) (fun i _ => l.length - (intOf i).toNat)
  case atStart => exact ⟨0, Nat.zero_le _, rfl, fun j x hj => by omega, Below.refl _ _⟩
  case round =>
    obtain ⟨k, hk, rfl, hall, hbw⟩ := hrel
    have Ha := Lib.hid hall
    have HB := Lib.hid hbw
    have k0 : (0 : Int) ≤ (k : Int) := by omega
    clear hall hbw
    by_cases c : k < l.length
    case neg =>
      have c0 : ¬ (k : Int) < (l.length : Int) := by omega
      have hv : Hid (findV (l.map Cty.nm) s = -1) := Ha.out.none (by rw [List.length_map]; omega)
      go_wp2_with fail
      go_ret
      exact ⟨by rw [hv.out]; try rfl, HB.out⟩
    case pos =>
      have c0 : (k : Int) < (l.length : Int) := by omega
      obtain ⟨x, hx⟩ : ∃ x, l[k]? = some x := ⟨_, List.getElem?_eq_getElem c⟩
      have hn : (l.map Cty.nm)[k]? = some x.nm := map_at hx
      have HN := Lib.hid hn
      obtain ⟨b, off, rfl, hb, hc⟩ := (HL.out.next HB.out).at hx
      have t0 : wr.cell? ⟨b, off + k * 6, none⟩ = some (.string x.nm) := hc 0 _ rfl
      have t1 : wr.cell? ⟨b, off + k * 6 + 1, none⟩ = some (.int .i64 x.o) := hc 1 _ rfl
      have t2 : wr.cell? ⟨b, off + k * 6 + 2, none⟩ = some (.int .i64 x.c) := hc 2 _ rfl
      have t3 : wr.cell? ⟨b, off + k * 6 + 3, none⟩ = some (.slice x.a3 x.rest.length x.k3) := hc 3 _ rfl
      have t4 : wr.cell? ⟨b, off + k * 6 + 4, none⟩ = some (.slice x.a4 x.feasts.length x.k4) := hc 4 _ rfl
      have t5 : wr.cell? ⟨b, off + k * 6 + 5, none⟩ = some (.slice x.a5 x.shut.length x.k5) := hc 5 _ rfl
      clear hx hc hn
      by_cases e : x.nm = s
      · have HE := Lib.hid e
        have e1 : (x.nm.toList == s.toList) = true := list_eq e
        have hv : Hid (findV (l.map Cty.nm) s = (k : Int)) := find_at (by rw [HN.out, HE.out]) Ha.out
        clear e
        go_wp2_with fail
        refine (nameCty_x x _).mono ?_
        rintro r w1 ⟨rfl, b1⟩
        go_wp2_with fail
        go_ret
        exact ⟨by rw [hv.out]; try rfl, chain (HB.out.trans ((Below.new1 _).mono HB.out.size)) b1⟩
      · have HE := Lib.hid e
        have e1 : (x.nm.toList == s.toList) = false := list_ne e
        have HX := Lib.hid (Ha.out.next HN.out e)
        clear e
        go_wp2_with fail
        refine (nameCty_x x _).mono ?_
        rintro r w1 ⟨rfl, b1⟩
        go_wp2_with fail
        go_roundw
        case rel => exact ⟨k + 1, by omega, by congr 1, HX.out, chain (HB.out.trans ((Below.new1 _).mono HB.out.size)) b1⟩
        case measure => simp [intOf]; omega

theorem nameFrm_x (x : Frm) (w : World) :
    Calls Tryz.prog 118 #[vFrm x] w fun r w' => r = .returned (.string x.nm) ∧ Below w.heap.size w w' := by
  go_enter Tryz.func118, Tryz.ntmps118
  go_wp2_with fail
  go_ret
  exact ⟨rfl, Below.new1 _⟩
set_option maxHeartbeats 1600000 in
theorem findFrm_x (v : Value) (l : List Frm) (s : B) (w : World) (h : FAt w v l) (hl : Sz l.length) :
    Calls Tryz.prog 152 #[v, .func (.func 118) #[] #[], .string s] w fun r w' => r = .returned (.int .i64 (findV (l.map Frm.nm) s)) ∧ Below w.heap.size w w' := by
  obtain ⟨a, cap, rfl⟩ := h.shape
  have HL := Lib.hid h
  clear h
  go_enter Tryz.func152, Tryz.ntmps152
  go_wp2_with fail
  go_loopw [11] (fun i wr => FRel l.length (l.map Frm.nm) s w i wr) (fun i _ => l.length - (intOf i).toNat)
  case atStart => exact ⟨0, Nat.zero_le _, rfl, fun j x hj => by omega, Below.refl _ _⟩
  case round =>
    obtain ⟨k, hk, rfl, hall, hbw⟩ := hrel
    have Ha := Lib.hid hall
    have HB := Lib.hid hbw
    have k0 : (0 : Int) ≤ (k : Int) := by omega
    clear hall hbw
    by_cases c : k < l.length
    case neg =>
      have c0 : ¬ (k : Int) < (l.length : Int) := by omega
      have hv : Hid (findV (l.map Frm.nm) s = -1) := Ha.out.none (by rw [List.length_map]; omega)
      go_wp2_with fail
      go_ret
      exact ⟨by rw [hv.out]; try rfl, HB.out⟩
    case pos =>
      have c0 : (k : Int) < (l.length : Int) := by omega
      obtain ⟨x, hx⟩ : ∃ x, l[k]? = some x := ⟨_, List.getElem?_eq_getElem c⟩
      have hn : (l.map Frm.nm)[k]? = some x.nm := map_at hx
      have HN := Lib.hid hn
      obtain ⟨b, off, rfl, hb, hc⟩ := (HL.out.next HB.out).at hx
      have t0 : wr.cell? ⟨b, off + k * 3, none⟩ = some (.string x.nm) := hc 0 _ rfl
      have t1 : wr.cell? ⟨b, off + k * 3 + 1, none⟩ = some (.int .i64 x.city) := hc 1 _ rfl
      have t2 : wr.cell? ⟨b, off + k * 3 + 2, none⟩ = some (.int .i64 x.grp) := hc 2 _ rfl
      clear hx hc hn
      by_cases e : x.nm = s
      · have HE := Lib.hid e
        have e1 : (x.nm.toList == s.toList) = true := list_eq e
        have hv : Hid (findV (l.map Frm.nm) s = (k : Int)) := find_at (by rw [HN.out, HE.out]) Ha.out
        clear e
        go_wp2_with fail
        refine (nameFrm_x x _).mono ?_
        rintro r w1 ⟨rfl, b1⟩
        go_wp2_with fail
        go_ret
        exact ⟨by rw [hv.out]; try rfl, chain (HB.out.trans ((Below.new1 _).mono HB.out.size)) b1⟩
      · have HE := Lib.hid e
        have e1 : (x.nm.toList == s.toList) = false := list_ne e
        have HX := Lib.hid (Ha.out.next HN.out e)
        clear e
        go_wp2_with fail
        refine (nameFrm_x x _).mono ?_
        rintro r w1 ⟨rfl, b1⟩
        go_wp2_with fail
        go_roundw
        case rel => exact ⟨k + 1, by omega, by congr 1, HX.out, chain (HB.out.trans ((Below.new1 _).mono HB.out.size)) b1⟩
        case measure => simp [intOf]; omega

theorem nameOdr_x (x : Odr) (w : World) :
    Calls Tryz.prog 119 #[vOdr x] w fun r w' => r = .returned (.string x.nm) ∧ Below w.heap.size w w' := by
  go_enter Tryz.func119, Tryz.ntmps119
  go_wp2_with fail
  go_ret
  exact ⟨rfl, Below.new1 _⟩
set_option maxHeartbeats 1600000 in
theorem findOdr_x (v : Value) (l : List Odr) (s : B) (w : World) (h : OAt w v l) (hl : Sz l.length) :
    Calls Tryz.prog 162 #[v, .func (.func 119) #[] #[], .string s] w fun r w' => r = .returned (.int .i64 (findV (l.map Odr.nm) s)) ∧ Below w.heap.size w w' := by
  obtain ⟨a, cap, rfl⟩ := h.shape
  have HL := Lib.hid h
  clear h
  go_enter Tryz.func162, Tryz.ntmps162
  go_wp2_with fail
  go_loopw [11] (fun i wr => FRel l.length (l.map Odr.nm) s w i wr) (fun i _ => l.length - (intOf i).toNat)
  case atStart => exact ⟨0, Nat.zero_le _, rfl, fun j x hj => by omega, Below.refl _ _⟩
  case round =>
    obtain ⟨k, hk, rfl, hall, hbw⟩ := hrel
    have Ha := Lib.hid hall
    have HB := Lib.hid hbw
    have k0 : (0 : Int) ≤ (k : Int) := by omega
    clear hall hbw
    by_cases c : k < l.length
    case neg =>
      have c0 : ¬ (k : Int) < (l.length : Int) := by omega
      have hv : Hid (findV (l.map Odr.nm) s = -1) := Ha.out.none (by rw [List.length_map]; omega)
      go_wp2_with fail
      go_ret
      exact ⟨by rw [hv.out]; try rfl, HB.out⟩
    case pos =>
      have c0 : (k : Int) < (l.length : Int) := by omega
      obtain ⟨x, hx⟩ : ∃ x, l[k]? = some x := ⟨_, List.getElem?_eq_getElem c⟩
      have hn : (l.map Odr.nm)[k]? = some x.nm := map_at hx
      have HN := Lib.hid hn
      obtain ⟨b, off, rfl, hb, hc⟩ := (HL.out.next HB.out).at hx
      have t0 : wr.cell? ⟨b, off + k * 4, none⟩ = some (.string x.nm) := hc 0 _ rfl
      have t1 : wr.cell? ⟨b, off + k * 4 + 1, none⟩ = some (.bool x.acc) := hc 1 _ rfl
      have t2 : wr.cell? ⟨b, off + k * 4 + 2, none⟩ = some (.slice x.a2 x.ch.length x.k2) := hc 2 _ rfl
      have t3 : wr.cell? ⟨b, off + k * 4 + 3, none⟩ = some (.slice x.a3 x.ru.length x.k3) := hc 3 _ rfl
      clear hx hc hn
      by_cases e : x.nm = s
      · have HE := Lib.hid e
        have e1 : (x.nm.toList == s.toList) = true := list_eq e
        have hv : Hid (findV (l.map Odr.nm) s = (k : Int)) := find_at (by rw [HN.out, HE.out]) Ha.out
        clear e
        go_wp2_with fail
        refine (nameOdr_x x _).mono ?_
        rintro r w1 ⟨rfl, b1⟩
        go_wp2_with fail
        go_ret
        exact ⟨by rw [hv.out]; try rfl, chain (HB.out.trans ((Below.new1 _).mono HB.out.size)) b1⟩
      · have HE := Lib.hid e
        have e1 : (x.nm.toList == s.toList) = false := list_ne e
        have HX := Lib.hid (Ha.out.next HN.out e)
        clear e
        go_wp2_with fail
        refine (nameOdr_x x _).mono ?_
        rintro r w1 ⟨rfl, b1⟩
        go_wp2_with fail
        go_roundw
        case rel => exact ⟨k + 1, by omega, by congr 1, HX.out, chain (HB.out.trans ((Below.new1 _).mono HB.out.size)) b1⟩
        case measure => simp [intOf]; omega

end Go.Proofs.YtcjakgpmompaiaaGreatDoor
