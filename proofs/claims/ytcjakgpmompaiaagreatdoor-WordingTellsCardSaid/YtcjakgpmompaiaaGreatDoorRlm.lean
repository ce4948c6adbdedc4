/-
  The plain mathematics of layer 9: realms, the first error, and what stands in them (no program).
-/
import GoSem.Claim
namespace Go.Proofs.YtcjakgpmompaiaaGreatDoor.Rl

abbrev B := ByteArray
abbrev ErrA : Int := 1
/-- a city, with the places of its three lists in memory -/
structure Cty where
  nm : B
  o : Int
  c : Int
  a3 : Option Addr
  a4 : Option Addr
  a5 : Option Addr
  k3 : Nat
  k4 : Nat
  k5 : Nat
  rest : List Int
  feasts : List Int
  shut : List Int
structure Frm where
  nm : B
  city : Int
  grp : Int
structure Chc where
  ask : Int
  how : Int
  whole : Bool
structure Rul where
  ask : Int
  op : Int
  n : Int
  a : Option Addr
  m : Nat
  k : Nat
structure Odr where
  nm : B
  acc : Bool
  a2 : Option Addr
  a3 : Option Addr
  k2 : Nat
  k3 : Nat
  ch : List Chc
  ru : List Rul
structure Usn where
  fr : Int
  to : Int
  days : Int
structure Rte where
  fr : Int
  to : Int
  num : Int
  den : Int
  since : Int
structure Hlt where
  o : Int
  fr : Int
  to : Int
structure Rlm where
  cur : List B
  cities : List Cty
  groups : List Int
  firms : List Frm
  orders : List Odr
  usances : List Usn
  rates : List Rte
  halts : List Hlt

/-- n lies from lo to hi -/
def wi (n lo hi : Int) : Bool := decide (lo ≤ n) && decide (n ≤ hi)
theorem wi_iff {n lo hi : Int} : wi n lo hi = true ↔ lo ≤ n ∧ n ≤ hi := by unfold wi; rw [Bool.and_eq_true, decide_eq_true_iff, decide_eq_true_iff]
/-- n is an index of a list of that length -/
def ix (n : Int) (len : Nat) : Bool := wi n 0 ((len : Int) - 1)
theorem ix_iff {n : Int} {len : Nat} : ix n len = true ↔ 0 ≤ n ∧ n < (len : Int) := by unfold ix; rw [wi_iff]; omega
/-- ascending and different, each one fits -/
def risesB (p : Int → Bool) (l : List Int) : Bool := decide (∀ i, i < l.length → p (l.getD i 0) = true ∧ (0 < i → l.getD (i - 1) 0 < l.getD i 0))
theorem rises_iff {p : Int → Bool} {l : List Int} : risesB p l = true ↔ ∀ i, i < l.length → p (l.getD i 0) = true ∧ (0 < i → l.getD (i - 1) 0 < l.getD i 0) := by unfold risesB; rw [decide_eq_true_iff]
theorem rises_no {p : Int → Bool} {l : List Int} {i : Nat} (hi : i < l.length) (h : ¬ (p (l.getD i 0) = true ∧ (0 < i → l.getD (i - 1) 0 < l.getD i 0))) : risesB p l = false := by
  rw [← Bool.not_eq_true, rises_iff]
  exact fun e => h (e i hi)
def wkB (n : Int) : Bool := wi n 0 6
def fsB (n : Int) : Bool := wi (n.tdiv 100) 1 12 && wi (n.tmod 100) 1 31
def dayB (n : Int) : Bool := wi n 0 100000
def quB (n : Int) : Bool := wi n 0 21
def letB (b : UInt8) : Bool := (decide (97 ≤ b.toNat) && decide (b.toNat ≤ 122)) || (decide (65 ≤ b.toNat) && decide (b.toNat ≤ 90))
/-- a letter, a digit or a low line -/
def morB (b : UInt8) : Bool := letB b || (decide (b.toNat = 95) || (decide (48 ≤ b.toNat) && decide (b.toNat ≤ 57)))
def okAt (s : B) (i : Nat) (h : i < s.size) : Prop := morB s[i] = true ∧ (i = 0 → letB s[i] = true)
instance {s : B} {i : Nat} {h : i < s.size} : Decidable (okAt s i h) := by unfold okAt; infer_instance
def nameB (s : B) : Bool := decide (1 ≤ s.size ∧ s.size ≤ 20) && decide (∀ i, (h : i < s.size) → okAt s i h)
theorem name_iff {s : B} : nameB s = true ↔ (1 ≤ s.size ∧ s.size ≤ 20) ∧ ∀ i, (h : i < s.size) → okAt s i h := by
  unfold nameB
  rw [Bool.and_eq_true, decide_eq_true_iff, decide_eq_true_iff]
theorem name_no {s : B} (h : ¬ ((1 ≤ s.size ∧ s.size ≤ 20) ∧ ∀ i, (h : i < s.size) → okAt s i h)) : nameB s = false := by
  rw [← Bool.not_eq_true, name_iff]
  exact h

/-- the first one, or else the second one -/
def orE (a b : Int) : Int := if a = 0 then b else a
theorem orE_zero {a b : Int} (h : a = 0) : orE a b = b := if_pos h
theorem orE_ne {a b : Int} (h : a ≠ 0) : orE a b = a := if_neg h
theorem orE_iff {a b : Int} : orE a b = 0 ↔ a = 0 ∧ b = 0 := by
  unfold orE
  split
  · rename_i h; simp [h]
  · rename_i h; simp [h]
theorem orE_assoc (a b c : Int) : orE (orE a b) c = orE a (orE b c) := by
  unfold orE
  by_cases h : a = 0 <;> simp [h]
/-- the first error of the first n elements -/
def firstE (chk : Nat → Int) : Nat → Int
  | 0 => 0
  | n + 1 => orE (firstE chk n) (chk n)
theorem first_zero {chk : Nat → Int} : ∀ {n : Nat}, firstE chk n = 0 ↔ ∀ i, i < n → chk i = 0
  | 0 => ⟨fun _ i h => by omega, fun _ => rfl⟩
  | n + 1 => by
    rw [firstE, orE_iff, first_zero (n := n)]
    constructor
    · rintro ⟨h1, h2⟩ i hi
      by_cases c : i = n
      · rw [c]; exact h2
      · exact h1 i (by omega)
    · exact fun h => ⟨fun i hi => h i (by omega), h n (by omega)⟩
theorem first_at {chk : Nat → Int} {i : Nat} (h : ∀ j, j < i → chk j = 0) (h1 : chk i ≠ 0) : ∀ {n : Nat}, i < n → firstE chk n = chk i
  | 0, hi => by omega
  | n + 1, hi => by
    rw [firstE]
    by_cases c : i = n
    · subst c
      rw [orE_zero (first_zero.2 h)]
    · rw [first_at h h1 (n := n) (by omega), orE_ne h1]
theorem first_congr {c1 c2 : Nat → Int} : ∀ {n : Nat}, (∀ i, i < n → c1 i = c2 i) → firstE c1 n = firstE c2 n
  | 0, _ => rfl
  | n + 1, h => by rw [firstE, firstE, first_congr (n := n) (fun i hi => h i (by omega)), h n (by omega)]
/-- the error of a list: too long, or its first one -/
def listE (lim n : Nat) (chk : Nat → Int) : Int := if lim < n then 6 else firstE chk n
theorem list_zero {lim n : Nat} {chk : Nat → Int} : listE lim n chk = 0 ↔ n ≤ lim ∧ ∀ i, i < n → chk i = 0 := by
  unfold listE
  split
  · exact ⟨fun h => absurd h (by decide), fun h => by omega⟩
  · rw [first_zero]
    exact ⟨fun h => ⟨by omega, h⟩, fun h => h.2⟩
theorem list_long {lim n : Nat} {chk : Nat → Int} (h : lim < n) : listE lim n chk = 6 := if_pos h
theorem list_all {lim n : Nat} {chk : Nat → Int} (h : ¬ lim < n) (ha : ∀ i, i < n → chk i = 0) : listE lim n chk = 0 := list_zero.2 ⟨by omega, ha⟩
theorem list_at {lim n i : Nat} {chk : Nat → Int} (h : ¬ lim < n) (ha : ∀ j, j < i → chk j = 0) (h1 : chk i ≠ 0) (hi : i < n) : listE lim n chk = chk i := by
  unfold listE
  rw [if_neg h]
  exact first_at ha h1 hi
/-- the index of the first element that is s, or -1 -/
def findV (l : List B) (s : B) : Int := match l.findIdx? (fun x => decide (x = s)) with
  | some i => i
  | none => -1
theorem find_at {l : List B} {s : B} {k : Nat} (h : l[k]? = some s) (hb : ∀ (j : Nat) (x : B), j < k → l[j]? = some x → x ≠ s) : findV l s = k := by
  have e : l.findIdx? (fun x => decide (x = s)) = some k := by
    rw [List.findIdx?_eq_some_iff_getElem]
    obtain ⟨hk, hx⟩ := List.getElem?_eq_some_iff.1 h
    refine ⟨hk, by simp [hx], fun j hj => ?_⟩
    have := hb j _ hj (List.getElem?_eq_getElem (by omega))
    simpa using this
  unfold findV
  rw [e]
theorem find_none {l : List B} {s : B} (hb : ∀ (j : Nat) (x : B), l[j]? = some x → x ≠ s) : findV l s = -1 := by
  have e : l.findIdx? (fun x => decide (x = s)) = none := by
    rw [List.findIdx?_eq_none_iff]
    intro x hx
    obtain ⟨j, hj⟩ := List.mem_iff_getElem?.1 hx
    simpa using hb j x hj
  unfold findV
  rw [e]
theorem find_cases (l : List B) (s : B) : (∃ k : Nat, l[k]? = some s ∧ (∀ (j : Nat) (x : B), j < k → l[j]? = some x → x ≠ s) ∧ findV l s = k) ∨ ((∀ (j : Nat) (x : B), l[j]? = some x → x ≠ s) ∧ findV l s = -1) := by
  cases e : l.findIdx? (fun x => decide (x = s)) with
  | some k =>
    left
    obtain ⟨hk, hx, hb⟩ := List.findIdx?_eq_some_iff_getElem.1 e
    have h1 : l[k]? = some s := by rw [List.getElem?_eq_getElem hk]; simpa using hx
    have h2 : ∀ (j : Nat) (x : B), j < k → l[j]? = some x → x ≠ s := by
      intro j x hj hx
      obtain ⟨hj2, e2⟩ := List.getElem?_eq_some_iff.1 hx
      have := hb j hj
      rw [e2] at this
      simpa using this
    exact ⟨k, h1, h2, find_at h1 h2⟩
  | none =>
    right
    have h1 : ∀ (j : Nat) (x : B), l[j]? = some x → x ≠ s := by
      intro j x hx
      have := List.findIdx?_eq_none_iff.1 e x (List.mem_of_getElem? hx)
      simpa using this
    exact ⟨h1, find_none h1⟩
/-- the error of an element with a name -/
def namedE (nms : List B) (right : Nat → Bool) (i : Nat) : Int :=
  if nameB (nms.getD i ByteArray.empty) = true then (if findV (nms.take i) (nms.getD i ByteArray.empty) = -1 then (if right i = true then 0 else 1) else 5) else 2
theorem named_zero {nms : List B} {right : Nat → Bool} {i : Nat} : namedE nms right i = 0 ↔ nameB (nms.getD i ByteArray.empty) = true ∧ findV (nms.take i) (nms.getD i ByteArray.empty) = -1 ∧ right i = true := by
  unfold namedE
  repeat' split
  all_goals simp_all

/-- a right city, but for its name -/
def cityB (no nc : Nat) (c : Cty) : Bool := ix c.o no && (ix c.c nc && (risesB wkB c.rest && (decide (c.feasts.length ≤ 60) && (risesB fsB c.feasts && (decide (c.shut.length ≤ 200) && risesB dayB c.shut)))))
def firmB (nc ng : Nat) (f : Frm) : Bool := ix f.city nc && ix f.grp ng
def chB (c : Chc) : Bool := wi c.how 0 4
def orderB (o : Odr) : Bool := o.ch.all chB && (risesB quB (o.ch.map Chc.ask) && risesB quB (o.ru.map Rul.ask))
def usB (nc : Nat) (u : Usn) : Bool := ix u.fr nc && (ix u.to nc && wi u.days 1 20000)
def rateB (nc : Nat) (x : Rte) : Bool := ix x.fr nc && (ix x.to nc && (decide (x.fr ≠ x.to) && (wi x.num 1 1073741824 && (wi x.den 1 1073741824 && dayB x.since))))
def haltB (no : Nat) (h : Hlt) : Bool := ix h.o no && (dayB h.fr && wi h.to h.fr 100000)
def sameU (a b : Usn) : Bool := decide (a.fr = b.fr) && decide (a.to = b.to)
/-- an element that need only be right -/
def plainE (right : Nat → Bool) (i : Nat) : Int := if right i = true then 0 else 1
def at_ {T : Type} (l : List T) (p : T → Bool) (i : Nat) : Bool := match l[i]? with | some x => p x | none => false
def usE (R : Rlm) (i : Nat) : Int := if at_ R.usances (usB R.cities.length) i = true then (if at_ R.usances (fun u => (R.usances.take i).any (fun x => sameU x u)) i = true then 5 else 0) else 1
def curE (R : Rlm) : Int := listE 8 R.cur.length (namedE R.cur (fun _ => true))
def cityE (R : Rlm) : Int := listE 40 R.cities.length (namedE (R.cities.map Cty.nm) (at_ R.cities (cityB R.orders.length R.cur.length)))
def groupE (R : Rlm) : Int := listE 20 R.groups.length (plainE (at_ R.groups (fun g => wi g 0 9)))
def firmE (R : Rlm) : Int := listE 200 R.firms.length (namedE (R.firms.map Frm.nm) (at_ R.firms (firmB R.cities.length R.groups.length)))
def orderE (R : Rlm) : Int := listE 20 R.orders.length (namedE (R.orders.map Odr.nm) (at_ R.orders orderB))
def usanceE (R : Rlm) : Int := listE 100 R.usances.length (usE R)
def ratesE (R : Rlm) : Int := listE 100 R.rates.length (plainE (at_ R.rates (rateB R.cur.length)))
def haltE (R : Rlm) : Int := listE 20 R.halts.length (plainE (at_ R.halts (haltB R.orders.length)))
def lstE (R : Rlm) : Nat → Int
  | 0 => curE R
  | 1 => cityE R
  | 2 => groupE R
  | 3 => firmE R
  | 4 => orderE R
  | 5 => usanceE R
  | 6 => ratesE R
  | 7 => haltE R
  | _ => 0
def checkP (R : Rlm) : Int := firstE (lstE R) 8

def orderAt (R : Rlm) (n : Int) : Int := if ix n R.cities.length = true then (match R.cities[n.toNat]? with | some c => c.o | none => -1) else -1
def usAt (R : Rlm) (a b : Int) : Int × Int := match R.usances.find? (fun u => decide (u.fr = a) && decide (u.to = b)) with
  | some u => (u.days, 0)
  | none => (0, 4)
def memP (F : List Frm) (g : Int) : List Int := ((List.range F.length).filter (fun i => at_ F (fun f => decide (f.grp = g)) i)).map Int.ofNat
def gradeP (R : Rlm) (n : Int) : Int := if ix n R.firms.length = true then (match R.firms[n.toNat]? with
  | some f => (if ix f.grp R.groups.length = true then R.groups.getD f.grp.toNat 0 else -1)
  | none => -1) else -1
end Go.Proofs.YtcjakgpmompaiaaGreatDoor.Rl
