/-
  Realms in memory, and the program's smallest functions.
-/
import Derived.Test.YtcjakgpmompaiaaGreatDoorRlm
import Derived.Test.YtcjakgpmompaiaaGreatDoorProg
import Derived.WalkKit
import Derived.WalkSpells
import Derived.WalkLawsBesides
import Derived.Lib.Hide
import Derived.IntWalk
import Derived.OwnWalk
import Derived.Deep.DeepCutAuto
import Derived.RegionTactic
import Derived.Deep.QuietTactic
import Derived.BigQuiet
import Derived.Laws.OwnMore
namespace Go.Proofs.YtcjakgpmompaiaaGreatDoor
open Go.RowKit Rl

def I64 (n : Int) : Prop := -9223372036854775808 ≤ n ∧ n ≤ 9223372036854775807
theorem below_drewN {B : Nat} {a w : World} (h : Below B a w) (n : Nat) : Below B a (w.drewN n) := ⟨h.os, h.tape, h.output, h.size, h.block⟩
theorem chain {W a b : World} (h : Below W.heap.size W a) (k : Below a.heap.size a b) : Below W.heap.size W b := h.trans (k.mono h.size)
theorem Below.new1 {w : World} (o : Obj) : Below w.heap.size w (w.alloc o) := (Below.refl _ _).alloc (Nat.le_refl _) _
theorem cell_up {W w' : World} {b o : Nat} {y : Value} (hb : Below W.heap.size W w') (h : W.cell? ⟨b, o, none⟩ = some y) : w'.cell? ⟨b, o, none⟩ = some y := by
  rw [hb.cell (p := ⟨b, o, none⟩) (World.block_lt_of_cell? W ⟨b, o, none⟩ h)]
  exact h
theorem lt_up {W w' : World} {g : Nat} (hb : Below W.heap.size W w') (h : g < W.heap.size) : g < w'.heap.size := Nat.lt_of_lt_of_le h hb.size
/-- a slice value reads as a list of rows of k cells -/
def KAt (w : World) (k : Nat) (v : Value) (l : List (List Value)) : Prop := ∃ a cap, v = .slice a l.length cap ∧ l.length ≤ cap ∧ ∀ (j : Nat) (x : List Value), l[j]? = some x → ∃ b off, a = some ⟨b, off, none⟩ ∧ b < w.heap.size ∧ ∀ (i : Nat) (y : Value), x[i]? = some y → w.cell? ⟨b, off + j * k + i, none⟩ = some y
theorem KAt.next {w w' : World} {k : Nat} {v : Value} {l : List (List Value)} (h : KAt w k v l) (hb : Below w.heap.size w w') : KAt w' k v l := by
  obtain ⟨a, cap, rfl, hcap, h⟩ := h
  refine ⟨a, cap, rfl, hcap, fun j t ht => ?_⟩
  obtain ⟨b, off, e, hlt, h0⟩ := h j t ht
  exact ⟨b, off, e, lt_up hb hlt, fun i y hy => cell_up hb (h0 i y hy)⟩
theorem KAt.nil (w : World) (k : Nat) : KAt w k (.slice none 0 0) [] := ⟨none, 0, rfl, Nat.le_refl _, fun j x h => by simp at h⟩
theorem KAt.take {w : World} {k n cap m : Nat} {a : Option Addr} {l : List (List Value)} (h : KAt w k (.slice a n cap) l) (hm : m ≤ l.length) : KAt w k (.slice a m cap) (l.take m) := by
  obtain ⟨a', cap', e, hcap, h⟩ := h
  simp only [Value.slice.injEq] at e
  obtain ⟨rfl, rfl, rfl⟩ := e
  refine ⟨a, cap, by rw [List.length_take, Nat.min_eq_left hm], by rw [List.length_take]; omega, fun j x hx => h j x ?_⟩
  rw [List.getElem?_take] at hx
  split at hx
  · exact hx
  · cases hx

def cStr (s : B) : List Value := [.string s]
def cInt (n : Int) : List Value := [.int .i64 n]
def cCty (c : Cty) : List Value := [.string c.nm, .int .i64 c.o, .int .i64 c.c, .slice c.a3 c.rest.length c.k3, .slice c.a4 c.feasts.length c.k4, .slice c.a5 c.shut.length c.k5]
def cFrm (f : Frm) : List Value := [.string f.nm, .int .i64 f.city, .int .i64 f.grp]
def cOdr (o : Odr) : List Value := [.string o.nm, .bool o.acc, .slice o.a2 o.ch.length o.k2, .slice o.a3 o.ru.length o.k3]
def cChc (c : Chc) : List Value := [.int .i64 c.ask, .int .i64 c.how, .bool c.whole]
def cRul (r : Rul) : List Value := [.int .i64 r.ask, .int .i64 r.op, .int .i64 r.n, .slice r.a r.m r.k]
def cUsn (u : Usn) : List Value := [.int .i64 u.fr, .int .i64 u.to, .int .i64 u.days]
def cRat (x : Rte) : List Value := [.int .i64 x.fr, .int .i64 x.to, .int .i64 x.num, .int .i64 x.den, .int .i64 x.since]
def cHlt (h : Hlt) : List Value := [.int .i64 h.o, .int .i64 h.fr, .int .i64 h.to]
abbrev vCty (c : Cty) : Value := .agg #[.string c.nm, .int .i64 c.o, .int .i64 c.c, .slice c.a3 c.rest.length c.k3, .slice c.a4 c.feasts.length c.k4, .slice c.a5 c.shut.length c.k5]
abbrev vGrp (g : Int) : Value := .agg #[.int .i64 g]
abbrev vFrm (f : Frm) : Value := .agg #[.string f.nm, .int .i64 f.city, .int .i64 f.grp]
abbrev vOdr (o : Odr) : Value := .agg #[.string o.nm, .bool o.acc, .slice o.a2 o.ch.length o.k2, .slice o.a3 o.ru.length o.k3]
abbrev vUsn (u : Usn) : Value := .agg #[.int .i64 u.fr, .int .i64 u.to, .int .i64 u.days]
abbrev vRat (x : Rte) : Value := .agg #[.int .i64 x.fr, .int .i64 x.to, .int .i64 x.num, .int .i64 x.den, .int .i64 x.since]
abbrev vHlt (h : Hlt) : Value := .agg #[.int .i64 h.o, .int .i64 h.fr, .int .i64 h.to]

/-- a list of T in memory, each of its elements with what hangs on it -/
structure LAt {T : Type} (w : World) (k : Nat) (c : T → List Value) (v : Value) (l : List T) : Prop where
  row : KAt w k v (l.map c)
theorem LAt.next {T : Type} {w w' : World} {k : Nat} {c : T → List Value} {v : Value} {l : List T} (h : LAt w k c v l) (hb : Below w.heap.size w w') : LAt w' k c v l := ⟨h.row.next hb⟩
theorem LAt.take {T : Type} {w : World} {k n cap m : Nat} {c : T → List Value} {a : Option Addr} {l : List T} (h : LAt w k c (.slice a n cap) l) (hm : m ≤ l.length) : LAt w k c (.slice a m cap) (l.take m) := by
  have := h.row.take (m := m) (by rw [List.length_map]; exact hm)
  rw [← List.map_take] at this
  exact ⟨this⟩
theorem LAt.form {T : Type} {w : World} {k : Nat} {c : T → List Value} {v : Value} {l : List T} (h : LAt w k c v l) : ∃ a cap, v = .slice a l.length cap ∧ l.length ≤ cap ∧
    Hid (∀ (j : Nat) (x : T), l[j]? = some x → ∃ b off, a = some ⟨b, off, none⟩ ∧ b < w.heap.size ∧ ∀ (i : Nat) (y : Value), (c x)[i]? = some y → w.cell? ⟨b, off + j * k + i, none⟩ = some y) := by
  obtain ⟨a, cap, rfl, hcap, h⟩ := h.row
  rw [List.length_map] at hcap
  refine ⟨a, cap, by rw [List.length_map], hcap, fun j x hx => h j (c x) (by rw [List.getElem?_map, hx]; rfl)⟩
abbrev SAt (w : World) (v : Value) (l : List B) : Prop := LAt w 1 cStr v l
abbrev IAt (w : World) (v : Value) (l : List Int) : Prop := LAt w 1 cInt v l
abbrev CAt (w : World) (v : Value) (l : List Cty) : Prop := LAt w 6 cCty v l
abbrev GAt (w : World) (v : Value) (l : List Int) : Prop := LAt w 1 cInt v l
abbrev FAt (w : World) (v : Value) (l : List Frm) : Prop := LAt w 3 cFrm v l
abbrev OAt (w : World) (v : Value) (l : List Odr) : Prop := LAt w 4 cOdr v l
abbrev UAt (w : World) (v : Value) (l : List Usn) : Prop := LAt w 3 cUsn v l
abbrev XAt (w : World) (v : Value) (l : List Rte) : Prop := LAt w 5 cRat v l
abbrev HAt (w : World) (v : Value) (l : List Hlt) : Prop := LAt w 3 cHlt v l
/-- the lists of a city, the lists of an order -/
def InC (w : World) (c : Cty) : Prop := IAt w (.slice c.a3 c.rest.length c.k3) c.rest ∧ IAt w (.slice c.a4 c.feasts.length c.k4) c.feasts ∧ IAt w (.slice c.a5 c.shut.length c.k5) c.shut
def InO (w : World) (o : Odr) : Prop := LAt w 3 cChc (.slice o.a2 o.ch.length o.k2) o.ch ∧ LAt w 4 cRul (.slice o.a3 o.ru.length o.k3) o.ru
theorem InC.next {w w' : World} {c : Cty} (h : InC w c) (hb : Below w.heap.size w w') : InC w' c := ⟨h.1.next hb, h.2.1.next hb, h.2.2.next hb⟩
theorem InO.next {w w' : World} {o : Odr} (h : InO w o) (hb : Below w.heap.size w w') : InO w' o := ⟨h.1.next hb, h.2.next hb⟩
/-- eight values read as a realm -/
structure RAt (w : World) (v0 v1 v2 v3 v4 v5 v6 v7 : Value) (R : Rlm) : Prop where
  cur : SAt w v0 R.cur
  cities : CAt w v1 R.cities
  groups : GAt w v2 R.groups
  firms : FAt w v3 R.firms
  orders : OAt w v4 R.orders
  usances : UAt w v5 R.usances
  rates : XAt w v6 R.rates
  halts : HAt w v7 R.halts
  inC : ∀ c ∈ R.cities, InC w c
  inO : ∀ o ∈ R.orders, InO w o
theorem RAt.next {w w' : World} {v0 v1 v2 v3 v4 v5 v6 v7 : Value} {R : Rlm} (h : RAt w v0 v1 v2 v3 v4 v5 v6 v7 R) (hb : Below w.heap.size w w') : RAt w' v0 v1 v2 v3 v4 v5 v6 v7 R :=
  ⟨h.cur.next hb, h.cities.next hb, h.groups.next hb, h.firms.next hb, h.orders.next hb, h.usances.next hb, h.rates.next hb, h.halts.next hb, fun c hc => (h.inC c hc).next hb, fun o ho => (h.inO o ho).next hb⟩
/-- what fits at all -/
abbrev Sz (n : Nat) : Prop := n ≤ 9223372036854775807
structure FitW (R : Rlm) : Prop where
  cur : Sz R.cur.length
  cities : Sz R.cities.length
  groups : Sz R.groups.length
  firms : Sz R.firms.length
  orders : Sz R.orders.length
  usances : Sz R.usances.length
  rates : Sz R.rates.length
  halts : Sz R.halts.length
  inC : ∀ c ∈ R.cities, Sz c.rest.length ∧ Sz c.feasts.length ∧ Sz c.shut.length ∧ ∀ n ∈ c.feasts, I64 n
  inO : ∀ o ∈ R.orders, Sz o.ch.length ∧ Sz o.ru.length
/-- .. and is hardly longer than it may be -/
structure Fit (R : Rlm) : Prop extends FitW R where
  s1 : R.cur.length < 50
  s2 : R.cities.length < 50
  s3 : R.groups.length < 50
  s4 : R.firms.length < 210
  s5 : R.orders.length < 50
  s6 : R.usances.length < 110
  s7 : R.rates.length < 110
  s8 : R.halts.length < 50
  sO : ∀ o ∈ R.orders, o.ch.length ≤ 40 ∧ o.ru.length ≤ 40

theorem ret_b {a b : Bool} (h : a = b) : Ending.returned (.bool a) = Ending.returned (.bool b) := by rw [h]
theorem within_x (n lo hi : Int) (w : World) :
    Calls Tryz.prog 110 #[.int .i64 n, .int .i64 lo, .int .i64 hi] w fun r w' => r = .returned (.bool (wi n lo hi)) ∧ w = w' := by
  go_enter Tryz.func110, Tryz.ntmps110
  go_wp2
  all_goals go_ret
  all_goals exact ⟨ret_b (by rw [Bool.eq_iff_iff, wi_iff]; simp; try omega), rfl⟩
theorem Within_x (n lo hi : Int) (w : World) :
    Calls Tryz.prog 137 #[.int .i64 n, .int .i64 lo, .int .i64 hi] w fun r w' => r = .returned (.bool (wi n lo hi)) ∧ w = w' := by
  go_enter Tryz.func137, Tryz.ntmps137
  go_wp2
  all_goals go_ret
  all_goals exact ⟨ret_b (by rw [Bool.eq_iff_iff, wi_iff]; simp; try omega), rfl⟩
theorem byte_le (c : UInt8) : (0 : Int) ≤ (c.toNat : Int) ∧ (c.toNat : Int) ≤ 255 := by
  have := c.toNat_lt
  omega
theorem isLetter_x (c : UInt8) (w : World) :
    Calls Tryz.prog 183 #[.int .u8 (c.toNat : Int)] w fun r w' => r = .returned (.bool (letB c)) ∧ w = w' := by
  obtain ⟨hc1, hc2⟩ := byte_le c
  go_enter Tryz.func183, Tryz.ntmps183
  go_wp2
  all_goals go_ret
  all_goals exact ⟨ret_b (by rw [Bool.eq_iff_iff]; simp [letB]; omega), rfl⟩
theorem Letter_x (c : UInt8) (w : World) :
    Calls Tryz.prog 184 #[.int .u8 (c.toNat : Int)] w fun r w' => r = .returned (.bool (letB c)) ∧ w = w' := by
  obtain ⟨hc1, hc2⟩ := byte_le c
  go_enter Tryz.func184, Tryz.ntmps184
  go_wp2
  all_goals go_ret
  all_goals exact ⟨ret_b (by rw [Bool.eq_iff_iff]; simp [letB]; omega), rfl⟩
theorem cityIx_x (n : Int) (a : Option Addr) (len cap : Nat) (w : World) (h : Sz len) :
    Calls Tryz.prog 114 #[.int .i64 n, .slice a len cap] w fun r w' => r = .returned (.bool (ix n len)) ∧ w = w' := by
  go_enter Tryz.func114, Tryz.ntmps114
  go_wp2_with fail
  refine (within_x _ _ _ _).mono ?_
  rintro r w1 ⟨rfl, rfl⟩
  go_wp2_with fail
  go_ret
  exact ⟨rfl, rfl⟩
theorem groupIx_x (n : Int) (a : Option Addr) (len cap : Nat) (w : World) (h : Sz len) :
    Calls Tryz.prog 115 #[.int .i64 n, .slice a len cap] w fun r w' => r = .returned (.bool (ix n len)) ∧ w = w' := by
  go_enter Tryz.func115, Tryz.ntmps115
  go_wp2_with fail
  refine (within_x _ _ _ _).mono ?_
  rintro r w1 ⟨rfl, rfl⟩
  go_wp2_with fail
  go_ret
  exact ⟨rfl, rfl⟩
theorem orderIx_x (n : Int) (a : Option Addr) (len cap : Nat) (w : World) (h : Sz len) :
    Calls Tryz.prog 100 #[.int .i64 n, .slice a len cap] w fun r w' => r = .returned (.bool (ix n len)) ∧ w = w' := by
  go_enter Tryz.func100, Tryz.ntmps100
  go_wp2_with fail
  refine (within_x _ _ _ _).mono ?_
  rintro r w1 ⟨rfl, rfl⟩
  go_wp2_with fail
  go_ret
  exact ⟨rfl, rfl⟩
theorem strIx_x (n : Int) (a : Option Addr) (len cap : Nat) (w : World) (h : Sz len) :
    Calls Tryz.prog 101 #[.int .i64 n, .slice a len cap] w fun r w' => r = .returned (.bool (ix n len)) ∧ w = w' := by
  go_enter Tryz.func101, Tryz.ntmps101
  go_wp2_with fail
  refine (within_x _ _ _ _).mono ?_
  rintro r w1 ⟨rfl, rfl⟩
  go_wp2_with fail
  go_ret
  exact ⟨rfl, rfl⟩
theorem isWeekday_x (n : Int) (w : World) :
    Calls Tryz.prog 103 #[.int .i64 n] w fun r w' => r = .returned (.bool (wkB n)) ∧ w = w' := by
  go_enter Tryz.func103, Tryz.ntmps103
  go_wp2_with fail
  refine (within_x _ _ _ _).mono ?_
  rintro r w1 ⟨rfl, rfl⟩
  go_wp2_with fail
  go_ret
  exact ⟨rfl, rfl⟩
theorem isDay_x (n : Int) (w : World) :
    Calls Tryz.prog 105 #[.int .i64 n] w fun r w' => r = .returned (.bool (dayB n)) ∧ w = w' := by
  go_enter Tryz.func105, Tryz.ntmps105
  go_wp2_with fail
  refine (within_x _ _ _ _).mono ?_
  rintro r w1 ⟨rfl, rfl⟩
  go_wp2_with fail
  go_ret
  exact ⟨rfl, rfl⟩
theorem isQuestion_x (n : Int) (w : World) :
    Calls Tryz.prog 121 #[.int .i64 n] w fun r w' => r = .returned (.bool (quB n)) ∧ w = w' := by
  go_enter Tryz.func121, Tryz.ntmps121
  go_wp2_with fail
  refine (within_x _ _ _ _).mono ?_
  rintro r w1 ⟨rfl, rfl⟩
  go_wp2_with fail
  go_ret
  exact ⟨rfl, rfl⟩
theorem isFeast_x (n : Int) (w : World) (h : I64 n) :
    Calls Tryz.prog 104 #[.int .i64 n] w fun r w' => r = .returned (.bool (fsB n)) ∧ w = w' := by
  obtain ⟨h1, h2⟩ := h
  cases e1 : wi (n.tdiv 100) 1 12 with
  | false =>
    have hv : Hid (fsB n = false) := by show _ = _; unfold fsB; rw [e1]; rfl
    go_enter Tryz.func104, Tryz.ntmps104
    go_wp2_with fail
    refine (within_x _ _ _ _).mono ?_
    rintro r w1 ⟨rfl, rfl⟩
    rw [e1]
    go_wp2_with fail
    go_ret
    exact ⟨by rw [hv.out]; try rfl, rfl⟩
  | true =>
    have hv : Hid (fsB n = wi (n.tmod 100) 1 31) := by show _ = _; unfold fsB; rw [e1]; rfl
    go_enter Tryz.func104, Tryz.ntmps104
    go_wp2_with fail
    refine (within_x _ _ _ _).mono ?_
    rintro r w1 ⟨rfl, rfl⟩
    rw [e1]
    go_wp2_with fail
    refine (within_x _ _ _ _).mono ?_
    rintro r w1 ⟨rfl, rfl⟩
    go_wp2_with fail
    go_ret
    exact ⟨by rw [hv.out]; try rfl, rfl⟩
end Go.Proofs.YtcjakgpmompaiaaGreatDoor
