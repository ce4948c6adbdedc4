/-
  The plain mathematics of layer 10: bills, the first error, the wording of a part, and what it means to read it (no program).
-/
import Derived.Test.YtcjakgpmompaiaaGreatDoorRlm
import Derived.Test.YtcjakgpmompaiaaGreatDoorCaCal
import Derived.Lib.ItoaNum
import Derived.Laws.Concat
import Derived.Lib.AtoiAll
import Derived.Lib.IndexAny
import Derived.Lib.Strings
import Derived.Lib.IndexMore
import Derived.Lib.SlicesS
namespace Go.Proofs.YtcjakgpmompaiaaGreatDoor.Wd
open Rl

abbrev L8 := List UInt8
def mkB (l : L8) : B := ⟨l.toArray⟩
theorem mkB_list (l : L8) : (mkB l).data.toList = l := rfl
theorem mkB_of (s : B) : mkB s.data.toList = s := rfl
theorem mkB_app (a b : L8) : mkB a ++ mkB b = mkB (a ++ b) := ByteArray.mk_append_mk _ _
theorem mkB_size (l : L8) : (mkB l).size = l.length := rfl
theorem mkB_inj {a b : L8} (h : mkB a = mkB b) : a = b := congrArg (fun s : B => s.data.toList) h

abbrev tBill : L8 := [98, 105, 108, 108]
abbrev tPaper : L8 := [112, 97, 112, 101, 114]
abbrev tOf : L8 := [32, 111, 102, 32]
abbrev tDrawn : L8 := [100, 114, 97, 119, 110, 32, 105, 110, 32]
abbrev tOn : L8 := [32, 111, 110, 32]
abbrev tPay : L8 := [112, 97, 121, 32]
abbrev tSight : L8 := [97, 116, 32, 115, 105, 103, 104, 116]
abbrev tUsance : L8 := [97, 116, 32, 117, 115, 97, 110, 99, 101]
abbrev tAt : L8 := [111, 110, 32]
abbrev tDays : L8 := [32, 100, 97, 121, 115]
abbrev tMonths : L8 := [32, 109, 111, 110, 116, 104, 115]
abbrev tASight : L8 := [32, 97, 102, 116, 101, 114, 32, 115, 105, 103, 104, 116]
abbrev tADate : L8 := [32, 97, 102, 116, 101, 114, 32, 100, 97, 116, 101]
abbrev tTo : L8 := [116, 111, 32]
abbrev tBearer : L8 := [98, 101, 97, 114, 101, 114]
abbrev tNot : L8 := [32, 110, 111, 116, 32, 116, 111, 32, 111, 114, 100, 101, 114]
abbrev tOr : L8 := [32, 111, 114, 32, 111, 114, 100, 101, 114]
abbrev tInt : L8 := [32, 119, 105, 116, 104, 32, 105, 110, 116, 101, 114, 101, 115, 116, 32, 97, 116, 32]
abbrev tMille : L8 := [32, 112, 101, 114, 32, 109, 105, 108, 108, 101]
abbrev tBy : L8 := [116, 111, 32, 98, 101, 32, 112, 97, 105, 100, 32, 98, 121, 32]
abbrev tIn : L8 := [32, 105, 110, 32]
abbrev tUnless : L8 := [117, 110, 108, 101, 115, 115, 32, 112, 97, 114, 116, 32]
abbrev tWas : L8 := [32, 119, 97, 115, 32, 112, 97, 105, 100]
abbrev tNeed : L8 := [105, 110, 32, 110, 101, 101, 100, 32, 97, 115, 107, 32]
abbrev tWithout : L8 := [119, 105, 116, 104, 111, 117, 116, 32, 112, 114, 111, 116, 101, 115, 116]
abbrev tSigned : L8 := [115, 105, 103, 110, 101, 100, 32]
abbrev tSep : L8 := [32, 111, 114, 32]

/-- a bill -/
structure Bl where
  (drawer drawee payee sum cur tk tn tu day city pay need rate flags parts : Int)
deriving DecidableEq
/-- whether a bit of the flags is set -/
def bit (f : Int) (k : Nat) : Bool := decide (f.toNat / k % 2 = 1)
def noneB (n : Int) (len : Nat) : Bool := decide (n = -1) || ix n len
def placedB (R : Rlm) (b : Bl) : Bool := ix b.drawer R.firms.length && (ix b.drawee R.firms.length && (noneB b.payee R.firms.length && (noneB b.need R.firms.length && (ix b.cur R.cur.length && (ix b.city R.cities.length && ix b.pay R.cities.length)))))
def rangedB (b : Bl) : Bool := wi b.sum 1 1099511627776 && (wi b.day 0 100000 && wi b.rate 0 1000)
def flaggedB (b : Bl) : Bool := wi b.flags 0 7 && !(decide (b.payee = -1) && bit b.flags 4)
def termedB (b : Bl) : Bool :=
  if b.tk = 0 ∨ b.tk = 4 then decide (b.tn = 0) && decide (b.tu = 0)
  else if b.tk = 1 ∨ b.tk = 2 then wi b.tn 1 400 && wi b.tu 0 1
  else if b.tk = 3 then wi b.tn b.day 100000 && decide (b.tu = 0) else false
/-- the error of a bill -/
def checkW (R : Rlm) (b : Bl) : Int :=
  orE (checkP R) (if placedB R b = true then (if rangedB b = true then (if wi b.parts 1 4 = true then (if flaggedB b = true ∧ termedB b = true then (if b.tk = 4 then (usAt R b.city b.pay).2 else 0) else 2) else 15) else 3) else 1)

def dec (n : Int) : L8 := Lib.decDigits n.toNat
def dateB (d : Int) : L8 := dec (Ca.date d).1 ++ 45 :: (dec (Ca.date d).2.1 ++ 45 :: dec (Ca.date d).2.2.1)
def firmN (R : Rlm) (n : Int) : L8 := match R.firms[n.toNat]? with | some f => f.nm.data.toList | none => []
def cityN (R : Rlm) (n : Int) : L8 := match R.cities[n.toNat]? with | some c => c.nm.data.toList | none => []
def curN (R : Rlm) (n : Int) : L8 := match R.cur[n.toNat]? with | some s => s.data.toList | none => []
def perB (n u : Int) : L8 := dec n ++ (if u = 1 then tMonths else tDays)
def termB (k n u : Int) : L8 := if k = 0 then tSight else if k = 4 then tUsance else if k = 3 then tAt ++ dateB n else if k = 1 then perB n u ++ tASight else perB n u ++ tADate
def titleB (f : Int) : L8 := if bit f 1 = true then tBill else tPaper
def payB (R : Rlm) (p f : Int) : L8 := if p = -1 then tBearer else firmN R p ++ (if bit f 4 = true then tNot else tOr)
def intB (n : Int) : L8 := if n = 0 then [] else tInt ++ dec n ++ tMille
/-- the numbers of the other parts -/
def othN (parts part : Int) : List L8 := ((List.range parts.toNat).filter (fun i => decide (i ≠ part.toNat))).map (fun i => dec (i + 1 : Nat))
def othB (parts part : Int) : L8 := tSep.intercalate (othN parts part)
def linesW (R : Rlm) (b : Bl) (p : Int) : List L8 :=
  [titleB b.flags ++ 32 :: (dec (p + 1) ++ tOf ++ dec b.parts), tDrawn ++ cityN R b.city ++ tOn ++ dateB b.day, tPay ++ termB b.tk b.tn b.tu, tTo ++ payB R b.payee b.flags,
   dec b.sum ++ 32 :: (curN R b.cur ++ intB b.rate), tBy ++ firmN R b.drawee ++ tIn ++ cityN R b.pay]
  ++ (if 1 < b.parts then [tUnless ++ othB b.parts p ++ tWas] else [])
  ++ (if b.need = -1 then [] else [tNeed ++ firmN R b.need])
  ++ (if bit b.flags 2 = true then [tWithout] else [])
  ++ [tSigned ++ firmN R b.drawer]
def wordW (R : Rlm) (b : Bl) (p : Int) : L8 := (linesW R b p).flatMap (· ++ [10])
/-- the bill is right and has the part -/
structure Has (R : Rlm) (b : Bl) (p : Int) : Prop where
  ok : checkW R b = 0
  lo : 0 ≤ p
  hi : p < b.parts
open Classical in
noncomputable def textP (R : Rlm) (b : Bl) (p : Int) : B := if Has R b p then mkB (wordW R b p) else ByteArray.empty
/-- a text is the wording of that part of that bill -/
structure IsT (R : Rlm) (s : B) (b : Bl) (p : Int) : Prop extends Has R b p where
  eq : s = mkB (wordW R b p)
open Classical in
noncomputable def parseP (R : Rlm) (s : B) : Option (Bl × Int) := if h : ∃ x : Bl × Int, IsT R s x.1 x.2 then some h.choose else none
/-- a text is the wording of at most one part of one bill -/
def Uniq (R : Rlm) (s : B) : Prop := ∀ b p b' p', IsT R s b p → IsT R s b' p' → b = b' ∧ p = p'

theorem textP_yes {R : Rlm} {b : Bl} {p : Int} (h : Has R b p) : textP R b p = mkB (wordW R b p) := if_pos h
theorem textP_no {R : Rlm} {b : Bl} {p : Int} (h : ¬ Has R b p) : textP R b p = ByteArray.empty := if_neg h
theorem parse_some {R : Rlm} {s : B} {x : Bl × Int} (h : parseP R s = some x) : IsT R s x.1 x.2 := by
  unfold parseP at h
  split at h
  · rename_i hx
    simp only [Option.some.injEq] at h
    rw [← h]
    exact hx.choose_spec
  · cases h
theorem parse_yes {R : Rlm} {s : B} {b : Bl} {p : Int} (hu : Uniq R s) (h : IsT R s b p) : parseP R s = some (b, p) := by
  have hx : ∃ x : Bl × Int, IsT R s x.1 x.2 := ⟨(b, p), h⟩
  have e : parseP R s = some hx.choose := dif_pos hx
  obtain ⟨e1, e2⟩ := hu _ _ _ _ hx.choose_spec h
  rw [e]
  congr 1
  exact Prod.ext e1 e2
theorem parse_no {R : Rlm} {s : B} (h : ∀ b p, ¬ IsT R s b p) : parseP R s = none := dif_neg (fun ⟨_, hx⟩ => h _ _ hx)

/-! ### What a right bill is -/
theorem orE_right {a b : Int} (h : orE a b = 0) : a = 0 ∧ b = 0 := orE_iff.1 h
/-- the parts of what a right bill is -/
structure Rt (R : Rlm) (b : Bl) : Prop where
  realm : checkP R = 0
  drawer : ix b.drawer R.firms.length = true
  drawee : ix b.drawee R.firms.length = true
  payee : b.payee = -1 ∨ ix b.payee R.firms.length = true
  need : b.need = -1 ∨ ix b.need R.firms.length = true
  cur : ix b.cur R.cur.length = true
  city : ix b.city R.cities.length = true
  pay : ix b.pay R.cities.length = true
  sum : 1 ≤ b.sum ∧ b.sum ≤ 1099511627776
  day : 0 ≤ b.day ∧ b.day ≤ 100000
  rate : 0 ≤ b.rate ∧ b.rate ≤ 1000
  parts : 1 ≤ b.parts ∧ b.parts ≤ 4
  flags : 0 ≤ b.flags ∧ b.flags ≤ 7
  bearer : b.payee = -1 → bit b.flags 4 = false
  term : termedB b = true
theorem rt_of {R : Rlm} {b : Bl} (h : checkW R b = 0) : Rt R b := by
  unfold checkW at h
  obtain ⟨h0, h⟩ := orE_right h
  by_cases c1 : placedB R b = true
  case neg => rw [if_neg c1] at h; cases h
  rw [if_pos c1] at h
  by_cases c2 : rangedB b = true
  case neg => rw [if_neg c2] at h; cases h
  rw [if_pos c2] at h
  by_cases c3 : wi b.parts 1 4 = true
  case neg => rw [if_neg c3] at h; cases h
  rw [if_pos c3] at h
  by_cases c4 : flaggedB b = true ∧ termedB b = true
  case neg => rw [if_neg c4] at h; cases h
  clear h
  unfold placedB noneB at c1
  unfold rangedB at c2
  obtain ⟨c4, c5⟩ := c4
  unfold flaggedB at c4
  simp only [Bool.and_eq_true, Bool.or_eq_true, decide_eq_true_iff, wi_iff] at c1 c2 c3 c4
  obtain ⟨q1, q2, q3, q4, q5, q6, q7⟩ := c1
  obtain ⟨q8, q9, q10⟩ := c2
  obtain ⟨q11, q12⟩ := c4
  refine ⟨h0, q1, q2, q3, q4, q5, q6, q7, q8, q9, q10, c3, q11, fun e => ?_, c5⟩
  cases hb : bit b.flags 4
  · rfl
  · rw [hb] at q12; simp [e] at q12
/-- the tenors that there are -/
inductive Tn (R : Rlm) (b : Bl) : Prop
  | sight (h1 : b.tk = 0) (h2 : b.tn = 0) (h3 : b.tu = 0)
  | usance (h1 : b.tk = 4) (h2 : b.tn = 0) (h3 : b.tu = 0)
  | fixed (h1 : b.tk = 3) (h2 : 0 ≤ b.tn) (h3 : b.tn ≤ 100000) (h4 : b.tu = 0)
  | after (h1 : b.tk = 1 ∨ b.tk = 2) (h2 : 1 ≤ b.tn) (h3 : b.tn ≤ 400) (h4 : b.tu = 0 ∨ b.tu = 1)
theorem Rt.tn {R : Rlm} {b : Bl} (h : Rt R b) : Tn R b := by
  have t := h.term
  have d := h.day
  unfold termedB at t
  by_cases c1 : b.tk = 0 ∨ b.tk = 4
  · rw [if_pos c1] at t
    simp only [Bool.and_eq_true, decide_eq_true_iff] at t
    rcases c1 with c | c
    · exact .sight c t.1 t.2
    · exact .usance c t.1 t.2
  rw [if_neg c1] at t
  by_cases c2 : b.tk = 1 ∨ b.tk = 2
  · rw [if_pos c2] at t
    simp only [Bool.and_eq_true, wi_iff] at t
    exact .after c2 t.1.1 t.1.2 (by omega)
  rw [if_neg c2] at t
  by_cases c3 : b.tk = 3
  · rw [if_pos c3] at t
    simp only [Bool.and_eq_true, wi_iff, decide_eq_true_iff] at t
    exact .fixed c3 (by omega) t.1.2 t.2
  · rw [if_neg c3] at t; cases t
theorem ix_get {T : Type} {l : List T} {n : Int} (h : ix n l.length = true) : ∃ (i : Nat) (x : T), n = (i : Int) ∧ l[i]? = some x := by
  obtain ⟨h1, h2⟩ := ix_iff.1 h
  obtain ⟨i, rfl⟩ := Int.eq_ofNat_of_zero_le h1
  exact ⟨i, l[i]'(by omega), rfl, List.getElem?_eq_getElem (by omega)⟩
theorem firmN_at {R : Rlm} {i : Nat} {f : Frm} (h : R.firms[i]? = some f) : firmN R (i : Int) = f.nm.data.toList := by
  unfold firmN
  rw [Int.toNat_natCast, h]
theorem cityN_at {R : Rlm} {i : Nat} {c : Cty} (h : R.cities[i]? = some c) : cityN R (i : Int) = c.nm.data.toList := by
  unfold cityN
  rw [Int.toNat_natCast, h]
theorem curN_at {R : Rlm} {i : Nat} {s : B} (h : R.cur[i]? = some s) : curN R (i : Int) = s.data.toList := by
  unfold curN
  rw [Int.toNat_natCast, h]
end Go.Proofs.YtcjakgpmompaiaaGreatDoor.Wd

/-
  Reading, plain: digits, dates, names; what a right realm says of its names.
-/
namespace Go.Proofs.YtcjakgpmompaiaaGreatDoor.Wd
open Rl

def isD (c : UInt8) : Bool := decide (48 ≤ c.toNat) && decide (c.toNat ≤ 57)
theorem isD_iff {c : UInt8} : isD c = true ↔ 48 ≤ c.toNat ∧ c.toNat ≤ 57 := by simp [isD]
/-- a text does not begin with a digit -/
def Nd (r : L8) : Prop := ∀ c r', r = c :: r' → isD c = false
theorem Nd.cons {c : UInt8} {r : L8} (h : isD c = false) : Nd (c :: r) := fun c' r' e => by
  simp only [List.cons.injEq] at e
  rw [← e.1]
  exact h
theorem Nd.nil : Nd [] := fun c r' e => by cases e
theorem toNat_dig {d : Nat} (h : d < 10) : (UInt8.ofNat (48 + d)).toNat = 48 + d := by
  simp only [UInt8.toNat_ofNat']
  omega
theorem isD_dig {d : Nat} (h : d < 10) : isD (UInt8.ofNat (48 + d)) = true := by
  rw [isD_iff, toNat_dig h]
  omega
theorem decD_small {n : Nat} (h : n < 10) : Lib.decDigits n = [UInt8.ofNat (48 + n)] := by rw [Lib.decDigits, dif_pos h]
theorem decD_big {n : Nat} (h : ¬ n < 10) : Lib.decDigits n = Lib.decDigits (n / 10) ++ [UInt8.ofNat (48 + n % 10)] := by rw [Lib.decDigits, dif_neg h]
theorem decD_all (n : Nat) : ∀ c ∈ Lib.decDigits n, isD c = true := by
  induction n using Nat.strongRecOn with
  | _ n ih =>
    intro c hc
    by_cases h : n < 10
    · rw [decD_small h, List.mem_singleton] at hc
      rw [hc]
      exact isD_dig h
    · rw [decD_big h, List.mem_append, List.mem_singleton] at hc
      rcases hc with hc | rfl
      · exact ih (n / 10) (by omega) c hc
      · exact isD_dig (by omega)
theorem decD_ne (n : Nat) : Lib.decDigits n ≠ [] := by
  by_cases h : n < 10
  · rw [decD_small h]; simp
  · rw [decD_big h]; simp
theorem decD_len : ∀ (k n : Nat), n < 10 ^ (k + 1) → (Lib.decDigits n).length ≤ k + 1
  | 0, n, h => by rw [decD_small (by omega)]; simp
  | k + 1, n, h => by
    by_cases c : n < 10
    · rw [decD_small c]; simp
    · rw [decD_big c, List.length_append]
      have := decD_len k (n / 10) (by rw [Nat.pow_succ] at h; omega)
      simp only [List.length_cons, List.length_nil]
      omega
/-- the number that digits spell -/
def val (acc : Nat) (ds : L8) : Nat := ds.foldl (fun a c => 10 * a + (c.toNat - 48)) acc
theorem val_snoc (acc : Nat) (ds : L8) (c : UInt8) : val acc (ds ++ [c]) = 10 * val acc ds + (c.toNat - 48) := by simp [val]
theorem val_decD (n : Nat) : val 0 (Lib.decDigits n) = n := by
  induction n using Nat.strongRecOn with
  | _ n ih =>
    by_cases h : n < 10
    · rw [decD_small h]
      simp only [val, List.foldl_cons, List.foldl_nil, toNat_dig h]
      omega
    · rw [decD_big h, val_snoc, ih (n / 10) (by omega), toNat_dig (by omega)]
      omega
theorem parse_app (a b : L8) : ∀ acc : Nat, Lib.parseUint10 acc (a ++ b) = (match Lib.parseUint10 acc a with | .ok v => Lib.parseUint10 v b | .syntax => .syntax | .range => .range) := by
  induction a with
  | nil => intro acc; rfl
  | cons c r ih =>
    intro acc
    simp only [List.cons_append, Lib.parseUint10]
    split
    · split
      · rfl
      · split
        · rfl
        · exact ih _
    · rfl
theorem parse_decD (n : Nat) (hn : n ≤ 1099511627776) : Lib.parseUint10 0 (Lib.decDigits n) = .ok n := by
  induction n using Nat.strongRecOn with
  | _ n ih =>
    by_cases h : n < 10
    · rw [decD_small h, Lib.parseUint10, toNat_dig h, if_pos (by omega), if_neg (by omega), if_neg (by omega), Lib.parseUint10]
      congr 1
      omega
    · rw [decD_big h, parse_app, ih (n / 10) (by omega) (by omega)]
      show Lib.parseUint10 (n / 10) [_] = _
      rw [Lib.parseUint10, toNat_dig (by omega), if_pos (by omega), if_neg (by omega), if_neg (by omega), Lib.parseUint10]
      congr 1
      omega
theorem atoi_decD (n : Nat) (hn : n ≤ 1099511627776) : Lib.atoiAll (Lib.decDigits n) = .ok n := by
  cases e : Lib.decDigits n with
  | nil => exact absurd e (decD_ne n)
  | cons c r =>
    have hc := isD_iff.1 (decD_all n c (by rw [e]; simp))
    have hp := parse_decD n hn
    rw [e] at hp
    have e1 : (if c.toNat = 43 ∨ c.toNat = 45 then r else c :: r) = c :: r := if_neg (by omega)
    have e2 : Lib.parseMag (c :: r) = .ok n := by unfold Lib.parseMag; rw [if_neg (by simp), hp]
    simp only [Lib.atoiAll, e1, e2]
    rw [if_neg (by omega), if_neg (by omega), if_neg (by omega)]
/-- the digits with which a text begins -/
theorem take_digits {n : Nat} {r : L8} (h : Nd r) : (Lib.decDigits n ++ r).takeWhile isD = Lib.decDigits n := by
  rw [List.takeWhile_append_of_pos (decD_all n)]
  cases r with
  | nil => simp
  | cons c r' => rw [List.takeWhile_cons_of_neg (by rw [h c r' rfl]; decide), List.append_nil]

/-! ### Reading -/
/-- a number is read -/
def NumR (s : L8) (v : Int) (t : L8) : Prop := ∀ (n : Int) (r : L8), 0 ≤ n → n ≤ 1099511627776 → Nd r → s = dec n ++ r → v = n ∧ t = r
def DateR (s : L8) (v : Int) (t : L8) : Prop := ∀ (d : Int) (r : L8), 0 ≤ d → d ≤ 100000 → Nd r → s = dateB d ++ r → v = d ∧ t = r
def As (s : L8) : Prop := ∀ c ∈ s, c.toNat < 128
theorem As.app {a b : L8} (ha : As a) (hb : As b) : As (a ++ b) := fun c hc => by
  rcases List.mem_append.1 hc with h | h
  · exact ha c h
  · exact hb c h
theorem As.cons {c : UInt8} {b : L8} (ha : c.toNat < 128) (hb : As b) : As (c :: b) := fun x hx => by
  rcases List.mem_cons.1 hx with h | h
  · rw [h]; exact ha
  · exact hb x h
theorem As.nil : As [] := fun c h => by cases h
theorem As.right {a b : L8} (h : As (a ++ b)) : As b := fun c hc => h c (List.mem_append_right _ hc)
theorem As.tail {c : UInt8} {b : L8} (h : As (c :: b)) : As b := fun x hx => h x (List.mem_cons_of_mem _ hx)
theorem As.dec (n : Int) : As (Wd.dec n) := fun c hc => by
  have := isD_iff.1 (decD_all _ c hc)
  omega
/-- the rest of a line that begins with a space, or is over -/
def Sp (r : L8) : Prop := ∃ c r', r = c :: r' ∧ (c = 32 ∨ c = 10)
theorem Sp.sp (r : L8) : Sp (32 :: r) := ⟨32, r, rfl, .inl rfl⟩
theorem Sp.nl (r : L8) : Sp (10 :: r) := ⟨10, r, rfl, .inr rfl⟩
def Wy (s : L8) : Prop := ∀ c ∈ s, morB c = true
theorem mor_facts {c : UInt8} (h : morB c = true) : c ≠ 32 ∧ c ≠ 10 ∧ c.toNat < 128 := by
  unfold morB letB at h
  simp only [Bool.or_eq_true, Bool.and_eq_true, decide_eq_true_iff] at h
  refine ⟨fun e => ?_, fun e => ?_, by omega⟩
  · subst e; revert h; decide
  · subst e; revert h; decide
theorem Wy.as {s : L8} (h : Wy s) : As s := fun c hc => (mor_facts (h c hc)).2.2
/-- a name ends at the first space or line end -/
theorem split_eq : ∀ {a b : L8} {c d : UInt8} {x y : L8}, Wy a → Wy b → (c = 32 ∨ c = 10) → (d = 32 ∨ d = 10) → a ++ c :: x = b ++ d :: y → a = b ∧ c = d ∧ x = y
  | [], [], c, d, x, y, _, _, _, _, e => by simpa using e
  | [], q :: b, c, d, x, y, _, hb, hc, _, e => by
    simp only [List.nil_append, List.cons_append, List.cons.injEq] at e
    have := mor_facts (hb q (by simp))
    rcases hc with h | h
    · exact absurd (e.1.symm.trans h) this.1
    · exact absurd (e.1.symm.trans h) this.2.1
  | p :: a, [], c, d, x, y, ha, _, _, hd, e => by
    simp only [List.nil_append, List.cons_append, List.cons.injEq] at e
    have := mor_facts (ha p (by simp))
    rcases hd with h | h
    · exact absurd (e.1.trans h) this.1
    · exact absurd (e.1.trans h) this.2.1
  | p :: a, q :: b, c, d, x, y, ha, hb, hc, hd, e => by
    simp only [List.cons_append, List.cons.injEq] at e
    obtain ⟨h1, h2, h3⟩ := split_eq (fun c hc => ha c (by simp [hc])) (fun c hc => hb c (by simp [hc])) hc hd e.2
    exact ⟨by rw [e.1, h1], h2, h3⟩
theorem indexAny_name {nm : L8} {r : L8} (hw : Wy nm) (hr : Sp r) : Lib.indexAny (nm ++ r) [32, 10] = nm.length := by
  obtain ⟨c, r', rfl, hc⟩ := hr
  refine Lib.indexAny_hit (x := c) (fun j b hj hb => ?_) (by simp) (by rcases hc with rfl | rfl <;> decide)
  rw [List.getElem?_append_left hj] at hb
  have := mor_facts (hw b (List.mem_of_getElem? hb))
  simp [this.1, this.2.1]
theorem name_wy {s : B} (h : nameB s = true) : Wy s.data.toList := by
  intro c hc
  obtain ⟨-, h2⟩ := name_iff.1 h
  obtain ⟨i, hi⟩ := List.mem_iff_getElem?.1 hc
  rw [Array.getElem?_toList] at hi
  obtain ⟨hl, e⟩ := Array.getElem?_eq_some_iff.1 hi
  have h3 := (h2 i hl).1
  have e2 : s[i]'hl = c := e
  rw [e2] at h3
  exact h3
theorem names_ok {nms : List B} {right : Nat → Bool} (h : ∀ i, i < nms.length → namedE nms right i = 0) {i : Nat} {s : B} (hs : nms[i]? = some s) : nameB s = true ∧ findV nms s = i := by
  have hlt := (List.getElem?_eq_some_iff.1 hs).1
  have h1 := named_zero.1 (h i hlt)
  have hx : nms.getD i ByteArray.empty = s := by rw [List.getD_eq_getElem?_getD, hs]; rfl
  rw [hx] at h1
  refine ⟨h1.1, find_at hs fun j x hj hx2 e => ?_⟩
  rcases find_cases (nms.take i) s with ⟨k, hk, -, hk2⟩ | ⟨hno, -⟩
  · rw [hk2] at h1
    have := h1.2.1
    omega
  · exact hno j x (by rw [List.getElem?_take, if_pos hj]; exact hx2) e
theorem lst_zero {R : Rlm} (h : checkP R = 0) {i : Nat} (hi : i < 8) : lstE R i = 0 := first_zero.1 h i hi
theorem firm_facts {R : Rlm} (h : checkP R = 0) {n : Int} (hn : ix n R.firms.length = true) : Wy (firmN R n) ∧ findV (R.firms.map Frm.nm) (mkB (firmN R n)) = n := by
  obtain ⟨i, f, rfl, hf⟩ := ix_get hn
  rw [firmN_at hf]
  have h0 := (list_zero.1 (lst_zero h (i := 3) (by decide))).2
  have := names_ok (nms := R.firms.map Frm.nm) (fun j hj => h0 j (by simpa using hj)) (i := i) (s := f.nm) (by rw [List.getElem?_map, hf]; rfl)
  exact ⟨name_wy this.1, this.2⟩
theorem city_facts {R : Rlm} (h : checkP R = 0) {n : Int} (hn : ix n R.cities.length = true) : Wy (cityN R n) ∧ findV (R.cities.map Cty.nm) (mkB (cityN R n)) = n := by
  obtain ⟨i, f, rfl, hf⟩ := ix_get hn
  rw [cityN_at hf]
  have h0 := (list_zero.1 (lst_zero h (i := 1) (by decide))).2
  have := names_ok (nms := R.cities.map Cty.nm) (fun j hj => h0 j (by simpa using hj)) (i := i) (s := f.nm) (by rw [List.getElem?_map, hf]; rfl)
  exact ⟨name_wy this.1, this.2⟩
theorem cur_facts {R : Rlm} (h : checkP R = 0) {n : Int} (hn : ix n R.cur.length = true) : Wy (curN R n) ∧ findV R.cur (mkB (curN R n)) = n := by
  obtain ⟨i, s, rfl, hs⟩ := ix_get hn
  rw [curN_at hs]
  have h0 := (list_zero.1 (lst_zero h (i := 0) (by decide))).2
  have := names_ok h0 hs
  exact ⟨name_wy this.1, this.2⟩
/-- a day has a date, and is the day of it -/
theorem date_day {d : Int} (h1 : 0 ≤ d) (h2 : d ≤ 100000) : ∃ y m k : Nat, Ca.date d = ((y : Int), (m : Int), (k : Int), 0) ∧ Ca.dayOf y m k = (d, 0) ∧ 2000 ≤ y ∧ y ≤ 2300 ∧ 1 ≤ m ∧ m ≤ 12 ∧ 1 ≤ k ∧ k ≤ 31 := by
  obtain ⟨t, rfl⟩ := Int.eq_ofNat_of_zero_le h1
  obtain ⟨k1, k2, k3⟩ := Ca.Cal.dom_spec t
  have km := Ca.Cal.mon_small (t := t) (by omega)
  have k4 := (Ca.Cal.len_bounds (Ca.Cal.mon t)).2
  refine ⟨2000 + Ca.Cal.mon t / 12, Ca.Cal.mon t % 12 + 1, Ca.Cal.dom t, ?_, ?_, by omega, by omega, by omega, by omega, k1, by omega⟩
  · unfold Ca.date
    rw [if_pos (Ca.valid_yes (by omega) h2), Int.toNat_natCast]
  · have hi : Ca.Cal.mon t % 12 < 12 := by omega
    have e : 12 * (Ca.Cal.mon t / 12) + Ca.Cal.mon t % 12 = Ca.Cal.mon t := by omega
    have hl := Ca.Cal.len_at (Ca.Cal.mon t / 12) (Ca.Cal.mon t % 12) hi
    rw [e] at hl
    have := Ca.dayOf_at (j := Ca.Cal.mon t / 12) (i := Ca.Cal.mon t % 12) (d := (Ca.Cal.dom t : Int)) hi (by omega) (by rw [← hl]; omega)
    rw [e] at this
    rw [show ((2000 + Ca.Cal.mon t / 12 : Nat) : Int) = 2000 + ((Ca.Cal.mon t / 12 : Nat) : Int) by omega, show ((Ca.Cal.mon t % 12 + 1 : Nat) : Int) = ((Ca.Cal.mon t % 12 : Nat) : Int) + 1 by omega, this, if_pos (by omega)]
    congr 1
    omega
theorem dec_nat (n : Nat) : dec (n : Int) = Lib.decDigits n := by unfold dec; rw [Int.toNat_natCast]
theorem as_date (d : Int) : As (dateB d) := (As.dec _).app (.cons (by decide) ((As.dec _).app (.cons (by decide) (As.dec _))))
end Go.Proofs.YtcjakgpmompaiaaGreatDoor.Wd

/-
  What is read of a wording, part by part, and of the whole (plain).
-/
namespace Go.Proofs.YtcjakgpmompaiaaGreatDoor.Wd
open Rl

abbrev tk (s x : L8) : L8 := Lib.trimPrefix s x
abbrev hp (s x : L8) : Bool := Lib.hasPrefix s x
theorem hp_hit (x r : L8) : hp (x ++ r) x = true := by
  unfold hp Lib.hasPrefix
  rw [List.isPrefixOf_iff_prefix]
  exact List.prefix_append x r
theorem tk_hit (x r : L8) : tk (x ++ r) x = r := by
  unfold tk Lib.trimPrefix
  rw [show Lib.hasPrefix (x ++ r) x = true from hp_hit x r, if_pos rfl, List.drop_left]
theorem tk_miss {s x : L8} (h : hp s x = false) : tk s x = s := by
  unfold tk Lib.trimPrefix
  rw [show Lib.hasPrefix s x = false from h]
  rfl
theorem hp_head {a b : UInt8} (s x : L8) (h : a ≠ b) : hp (a :: s) (b :: x) = false := by
  unfold hp Lib.hasPrefix
  rw [List.isPrefixOf_cons_cons, Bool.and_eq_false_iff]
  exact .inl (beq_eq_false_iff_ne.2 (Ne.symm h))
theorem hp_dec {n : Int} {b : UInt8} (r x : L8) (h : isD b = false) : hp (dec n ++ r) (b :: x) = false := by
  unfold dec
  cases e : Lib.decDigits n.toNat with
  | nil => exact absurd e (decD_ne _)
  | cons c t =>
    refine hp_head _ _ fun e2 => ?_
    subst e2
    have := decD_all n.toNat c (by rw [e]; simp)
    rw [h] at this
    cases this

def FirmR (R : Rlm) (s : L8) (v : Int) (t : L8) : Prop := ∀ (n : Int) (r : L8), checkP R = 0 → ix n R.firms.length = true → As s → Sp r → s = firmN R n ++ r → v = n ∧ t = r
def CityR (R : Rlm) (s : L8) (v : Int) (t : L8) : Prop := ∀ (n : Int) (r : L8), checkP R = 0 → ix n R.cities.length = true → As s → Sp r → s = cityN R n ++ r → v = n ∧ t = r
def CurR (R : Rlm) (s : L8) (v : Int) (t : L8) : Prop := ∀ (n : Int) (r : L8), checkP R = 0 → ix n R.cur.length = true → As s → Sp r → s = curN R n ++ r → v = n ∧ t = r
/-- what is before the next space or line end -/
def NameR (s nm t : L8) : Prop := ∀ (x r : L8), As s → Wy x → Sp r → s = x ++ r → nm = x ∧ t = r
theorem NameR.firm {R : Rlm} {s nm t : L8} (h : NameR s nm t) : FirmR R s (findV (R.firms.map Frm.nm) (mkB nm)) t := by
  intro n r hc hn ha hr e
  obtain ⟨h1, h2⟩ := firm_facts hc hn
  obtain ⟨rfl, h4⟩ := h _ _ ha h1 hr e
  exact ⟨h2, h4⟩
theorem NameR.city {R : Rlm} {s nm t : L8} (h : NameR s nm t) : CityR R s (findV (R.cities.map Cty.nm) (mkB nm)) t := by
  intro n r hc hn ha hr e
  obtain ⟨h1, h2⟩ := city_facts hc hn
  obtain ⟨rfl, h4⟩ := h _ _ ha h1 hr e
  exact ⟨h2, h4⟩
theorem NameR.cur {R : Rlm} {s nm t : L8} (h : NameR s nm t) : CurR R s (findV R.cur (mkB nm)) t := by
  intro n r hc hn ha hr e
  obtain ⟨h1, h2⟩ := cur_facts hc hn
  obtain ⟨rfl, h4⟩ := h _ _ ha h1 hr e
  exact ⟨h2, h4⟩
/-- the program's name: the text up to k, and k is where the next space or line end is -/
theorem nameR_of {s : L8} {k : Nat} (h : As s → (k : Int) = max 0 (Lib.indexAny s [32, 10])) : NameR s (s.take k) (s.drop k) := by
  intro x r ha hx hr e
  have h1 := h ha
  rw [e, indexAny_name hx hr] at h1
  have hk : k = x.length := by omega
  rw [hk, e]
  exact ⟨List.take_left, List.drop_left⟩
/-- the program's number: the digits, and what they spell -/
theorem numR_of {s : L8} {k : Nat} {v : Int} (hk : k = (s.takeWhile isD).length) (hv : ∀ n : Nat, n ≤ 1099511627776 → s.take k = Lib.decDigits n → v = n) : NumR s v (s.drop k) := by
  intro n r h0 h1 hr e
  have ht : s.takeWhile isD = dec n := by rw [e]; exact take_digits hr
  rw [ht] at hk
  have e2 : s.take k = dec n := by rw [e, hk]; exact List.take_left
  refine ⟨?_, by rw [e, hk]; exact List.drop_left⟩
  have := hv n.toNat (by omega) e2
  omega
theorem dateR_of {s t1 t2 t3 : L8} {y m d : Int} (h1 : NumR s y t1) (h2 : NumR (tk t1 [45]) m t2) (h3 : NumR (tk t2 [45]) d t3) : DateR s (Ca.dayOf y m d).1 t3 := by
  intro n r h0 hn hr e
  obtain ⟨a, b, c, e1, e2, q1, q2, q3, q4, q5, q6⟩ := date_day h0 hn
  unfold dateB at e
  rw [e1] at e
  dsimp only at e
  obtain ⟨rfl, rfl⟩ := h1 a (45 :: (dec b ++ 45 :: (dec c ++ r))) (by omega) (by omega) (Nd.cons (by decide)) (by rw [e]; simp only [List.append_assoc, List.cons_append])
  rw [show tk (45 :: (dec (b : Int) ++ 45 :: (dec (c : Int) ++ r))) [45] = dec (b : Int) ++ 45 :: (dec (c : Int) ++ r) from tk_hit [45] _] at h2
  obtain ⟨rfl, rfl⟩ := h2 b _ (by omega) (by omega) (Nd.cons (by decide)) rfl
  rw [show tk (45 :: (dec (c : Int) ++ r)) [45] = dec (c : Int) ++ r from tk_hit [45] _] at h3
  obtain ⟨rfl, rfl⟩ := h3 c _ (by omega) (by omega) hr rfl
  exact ⟨by rw [e2], rfl⟩

/-- the first line -/
def HeadR (s : L8) (w : Bool) (part parts : Int) (t : L8) : Prop := ∀ (w' : Bool) (p N : Int) (r : L8), 0 ≤ p → p < N → N ≤ 4 → s = (if w' = true then tBill else tPaper) ++ 32 :: (dec (p + 1) ++ (tOf ++ (dec N ++ 10 :: r))) → w = w' ∧ part = p ∧ parts = N ∧ t = r
theorem headR_of {s t1 t2 t4 : L8} {v1 v2 : Int} {w : Bool} (hw : w = hp s (tBill ++ [32])) (ht : t1 = if w = true then tk s (tBill ++ [32]) else tk s (tPaper ++ [32])) (h1 : NumR t1 v1 t2) (h2 : NumR (tk t2 tOf) v2 t4) : HeadR s w (v1 - 1) v2 (tk t4 [10]) := by
  intro w' p N r q1 q2 q3 e
  have hww : w = w' ∧ t1 = dec (p + 1) ++ (tOf ++ (dec N ++ 10 :: r)) := by
    cases w' with
    | true =>
      have e2 : s = (tBill ++ [32]) ++ (dec (p + 1) ++ (tOf ++ (dec N ++ 10 :: r))) := e
      have hw2 : w = true := by rw [hw, e2]; exact hp_hit _ _
      rw [if_pos hw2, e2] at ht
      exact ⟨hw2, ht.trans (tk_hit _ _)⟩
    | false =>
      have e2 : s = (tPaper ++ [32]) ++ (dec (p + 1) ++ (tOf ++ (dec N ++ 10 :: r))) := e
      have hw2 : w = false := by rw [hw, e2]; exact hp_head _ _ (by decide)
      rw [if_neg (by rw [hw2]; decide), e2] at ht
      exact ⟨hw2, ht.trans (tk_hit _ _)⟩
  obtain ⟨h3, rfl⟩ := hww
  obtain ⟨rfl, rfl⟩ := h1 (p + 1) _ (by omega) (by omega) (Nd.cons (by decide)) rfl
  change NumR (tk (tOf ++ (dec N ++ 10 :: r)) tOf) v2 t4 at h2
  rw [tk_hit] at h2
  obtain ⟨rfl, rfl⟩ := h2 N _ (by omega) (by omega) (Nd.cons (by decide)) rfl
  exact ⟨h3, by omega, rfl, tk_hit [10] r⟩

/-- the tenors that there are, by their three numbers -/
inductive TnQ : Int → Int → Int → Prop
  | sight : TnQ 0 0 0
  | usance : TnQ 4 0 0
  | fixed {n : Int} (h1 : 0 ≤ n) (h2 : n ≤ 100000) : TnQ 3 n 0
  | after {k n u : Int} (h1 : k = 1 ∨ k = 2) (h2 : 1 ≤ n) (h3 : n ≤ 400) (h4 : u = 0 ∨ u = 1) : TnQ k n u
theorem tnQ_of {R : Rlm} {b : Bl} (h : Tn R b) : TnQ b.tk b.tn b.tu := by
  rcases h with ⟨h1, h2, h3⟩ | ⟨h1, h2, h3⟩ | ⟨h1, h2, h3, h4⟩ | ⟨h1, h2, h3, h4⟩
  · rw [h1, h2, h3]; exact .sight
  · rw [h1, h2, h3]; exact .usance
  · rw [h1, h4]; exact .fixed h2 h3
  · exact .after h1 h2 h3 h4
def TermR (s : L8) (k n u : Int) (t : L8) : Prop := ∀ (k' n' u' : Int) (r : L8), TnQ k' n' u' → s = termB k' n' u' ++ 10 :: r → k = k' ∧ n = n' ∧ u = u' ∧ t = 10 :: r
theorem termR_sight {s : L8} (h : hp s tSight = true) : TermR s 0 0 0 (tk s tSight) := by
  intro k n u r hq e
  subst e
  rcases hq with _ | _ | ⟨h1, h2⟩ | ⟨h1, h2, h3, h4⟩
  · exact ⟨rfl, rfl, rfl, tk_hit tSight _⟩
  · cases h
  · cases h
  · exfalso
    unfold termB perB at h
    rw [if_neg (by omega), if_neg (by omega), if_neg (by omega)] at h
    have : hp (dec n ++ ((if u = 1 then tMonths else tDays) ++ (if k = 1 then tASight else tADate) ++ 10 :: r)) tSight = false := hp_dec _ _ (by decide)
    split at h <;> rename_i c
    · rw [if_pos c] at this
      simp only [List.append_assoc] at h this
      rw [this] at h; cases h
    · rw [if_neg c] at this
      simp only [List.append_assoc] at h this
      rw [this] at h; cases h
theorem termR_usance {s : L8} (h : hp s tUsance = true) : TermR s 4 0 0 (tk s tUsance) := by
  intro k n u r hq e
  subst e
  rcases hq with _ | _ | ⟨h1, h2⟩ | ⟨h1, h2, h3, h4⟩
  · cases h
  · exact ⟨rfl, rfl, rfl, tk_hit tUsance _⟩
  · cases h
  · exfalso
    unfold termB perB at h
    rw [if_neg (by omega), if_neg (by omega), if_neg (by omega)] at h
    have : hp (dec n ++ ((if u = 1 then tMonths else tDays) ++ (if k = 1 then tASight else tADate) ++ 10 :: r)) tUsance = false := hp_dec _ _ (by decide)
    split at h <;> rename_i c
    · rw [if_pos c] at this
      simp only [List.append_assoc] at h this
      rw [this] at h; cases h
    · rw [if_neg c] at this
      simp only [List.append_assoc] at h this
      rw [this] at h; cases h
theorem termR_fixed {s t : L8} {v : Int} (h : hp s tAt = true) (hd : DateR (tk s tAt) v t) : TermR s 3 v 0 t := by
  intro k n u r hq e
  subst e
  rcases hq with _ | _ | ⟨h1, h2⟩ | ⟨h1, h2, h3, h4⟩
  · cases h
  · cases h
  · have e1 : tk (termB 3 n 0 ++ 10 :: r) tAt = dateB n ++ 10 :: r := tk_hit tAt _
    rw [e1] at hd
    obtain ⟨rfl, rfl⟩ := hd n _ h1 h2 (Nd.cons (by decide)) rfl
    exact ⟨rfl, rfl, rfl, rfl⟩
  · exfalso
    unfold termB perB at h
    rw [if_neg (by omega), if_neg (by omega), if_neg (by omega)] at h
    have : hp (dec n ++ ((if u = 1 then tMonths else tDays) ++ (if k = 1 then tASight else tADate) ++ 10 :: r)) tAt = false := hp_dec _ _ (by decide)
    split at h <;> rename_i c
    · rw [if_pos c] at this
      simp only [List.append_assoc] at h this
      rw [this] at h; cases h
    · rw [if_neg c] at this
      simp only [List.append_assoc] at h this
      rw [this] at h; cases h
/-- after sight or date: the number, the unit, the kind -/
theorem termR_after {s t1 t2 t3 : L8} {v k u : Int} (h1 : hp s tSight = false) (h2 : hp s tUsance = false) (h3 : hp s tAt = false) (hn : NumR s v t1)
    (hu : u = if hp t1 tDays = true then 0 else 1) (ht2 : t2 = if hp t1 tDays = true then tk t1 tDays else tk t1 tMonths)
    (hk : k = if hp t2 tASight = true then 1 else 2) (ht3 : t3 = if hp t2 tASight = true then tk t2 tASight else tk t2 tADate) : TermR s k v u t3 := by
  intro k' n u' r hq e
  subst e
  rcases hq with _ | _ | ⟨q1, q2⟩ | ⟨q1, q2, q3, q4⟩
  · cases h1
  · cases h2
  · cases h3
  · have e : termB k' n u' ++ 10 :: r = dec n ++ ((if u' = 1 then tMonths else tDays) ++ ((if k' = 1 then tASight else tADate) ++ 10 :: r)) := by
      unfold termB perB
      rw [if_neg (by omega), if_neg (by omega), if_neg (by omega)]
      split <;> simp only [List.append_assoc]
    obtain ⟨rfl, rfl⟩ := hn n _ (by omega) (by omega) (by
      rcases q4 with rfl | rfl
      · exact Nd.cons (by decide)
      · exact Nd.cons (by decide)) e
    have hu2 : u = u' ∧ t2 = (if k' = 1 then tASight else tADate) ++ 10 :: r := by
      rcases q4 with rfl | rfl
      · have e4 : hp (tDays ++ ((if k' = 1 then tASight else tADate) ++ 10 :: r)) tDays = true := hp_hit _ _
        rw [if_neg (show ¬ (0 : Int) = 1 by decide), if_pos e4] at hu ht2
        exact ⟨hu, ht2.trans (tk_hit _ _)⟩
      · have e4 : hp (tMonths ++ ((if k' = 1 then tASight else tADate) ++ 10 :: r)) tDays = false := rfl
        rw [if_pos rfl, if_neg (by rw [e4]; decide)] at hu ht2
        exact ⟨hu, ht2.trans (tk_hit _ _)⟩
    obtain ⟨rfl, rfl⟩ := hu2
    have hk2 : k = k' ∧ t3 = 10 :: r := by
      rcases q1 with rfl | rfl
      · have e4 : hp (tASight ++ 10 :: r) tASight = true := hp_hit _ _
        rw [if_pos rfl, if_pos e4] at hk ht3
        exact ⟨hk, ht3.trans (tk_hit _ _)⟩
      · have e4 : hp (tADate ++ 10 :: r) tASight = false := rfl
        rw [if_neg (show ¬ (2 : Int) = 1 by decide), if_neg (by rw [e4]; decide)] at hk ht3
        exact ⟨hk, ht3.trans (tk_hit _ _)⟩
    exact ⟨hk2.1, rfl, rfl, hk2.2⟩

/-- the payee -/
def PayR (R : Rlm) (s : L8) (p : Int) (o : Bool) (t : L8) : Prop := ∀ (p' : Int) (o' : Bool) (r : L8), checkP R = 0 → As s → (p' = -1 ∨ ix p' R.firms.length = true) → (p' = -1 → o' = false) →
  s = (if p' = -1 then tBearer else firmN R p' ++ (if o' = true then tNot else tOr)) ++ 10 :: r → p = p' ∧ o = o' ∧ t = r
theorem ix_ne {n : Int} {l : Nat} (h : ix n l = true) : ¬ n = -1 := by have := ix_iff.1 h; omega
theorem sp_or (o : Bool) (r : L8) : ∃ x, (if o = true then tNot else tOr) ++ 10 :: r = 32 :: x := by cases o <;> exact ⟨_, rfl⟩
theorem wy_bearer : Wy tBearer := by unfold Wy; decide
theorem payR_bearer {R : Rlm} {s : L8} (h : hp s (tBearer ++ [10]) = true) : PayR R s (-1) false (tk s (tBearer ++ [10])) := by
  intro p o r hc ha hp1 ho e
  rcases hp1 with rfl | hp1
  · rw [if_pos rfl] at e
    refine ⟨rfl, (ho rfl).symm, ?_⟩
    rw [e]
    exact tk_hit (tBearer ++ [10]) r
  · exfalso
    rw [if_neg (ix_ne hp1)] at e
    obtain ⟨hw, -⟩ := firm_facts hc hp1
    obtain ⟨x, hx⟩ := sp_or o r
    rw [List.append_assoc, hx] at e
    unfold hp Lib.hasPrefix at h
    rw [List.isPrefixOf_iff_prefix] at h
    obtain ⟨q, hq⟩ := h
    rw [e] at hq
    have := split_eq wy_bearer hw (.inr rfl) (.inl rfl) (c := 10) (x := q) (d := 32) (y := x) (by rw [← hq]; rfl)
    exact absurd this.2.1 (by decide)
theorem payR_firm {R : Rlm} {s t1 t2 : L8} {v : Int} {o : Bool} (h : hp s (tBearer ++ [10]) = false) (hf : FirmR R s v t1) (ho : o = hp t1 (tNot ++ [10])) (ht : t2 = if o = true then tk t1 (tNot ++ [10]) else tk t1 (tOr ++ [10])) : PayR R s v o t2 := by
  intro p o' r hc ha hp1 ho' e
  rcases hp1 with rfl | hp1
  · exfalso
    rw [if_pos rfl] at e
    rw [e, show hp (tBearer ++ 10 :: r) (tBearer ++ [10]) = true from hp_hit (tBearer ++ [10]) r] at h
    cases h
  · rw [if_neg (ix_ne hp1), List.append_assoc] at e
    obtain ⟨x, hx⟩ := sp_or o' r
    obtain ⟨rfl, rfl⟩ := hf p _ hc hp1 ha (by rw [hx]; exact .sp x) e
    refine ⟨rfl, ?_⟩
    cases o' with
    | true =>
      have e4 : hp (tNot ++ 10 :: r) (tNot ++ [10]) = true := hp_hit (tNot ++ [10]) r
      rw [if_pos rfl, e4] at ho
      rw [ho, if_pos rfl, if_pos rfl] at ht
      exact ⟨ho, ht.trans (tk_hit (tNot ++ [10]) r)⟩
    | false =>
      have e4 : hp (tOr ++ 10 :: r) (tNot ++ [10]) = false := rfl
      rw [if_neg (by decide), e4] at ho
      rw [ho, if_neg (by decide), if_neg (by decide)] at ht
      exact ⟨ho, ht.trans (tk_hit (tOr ++ [10]) r)⟩

/-- the sum -/
def SumR (R : Rlm) (s : L8) (v c i : Int) (t : L8) : Prop := ∀ (v' c' i' : Int) (r : L8), checkP R = 0 → As s → 0 ≤ v' → v' ≤ 1099511627776 → ix c' R.cur.length = true → 0 ≤ i' → i' ≤ 1000 →
  s = dec v' ++ 32 :: (curN R c' ++ (intB i' ++ 10 :: r)) → v = v' ∧ c = c' ∧ i = i' ∧ t = r
theorem sumR_of {R : Rlm} {s t1 t2 t3 t4 : L8} {v c i : Int} (h1 : NumR s v t1) (h2 : CurR R (tk t1 [32]) c t2)
    (hi : if hp t2 tInt = true then NumR (tk t2 tInt) i t3 ∧ t4 = tk t3 tMille else i = 0 ∧ t4 = t2) : SumR R s v c i (tk t4 [10]) := by
  intro v' c' i' r hc ha q1 q2 q3 q4 q5 e
  obtain ⟨rfl, rfl⟩ := h1 v' _ q1 q2 (Nd.cons (by decide)) e
  rw [show tk (32 :: (curN R c' ++ (intB i' ++ 10 :: r))) [32] = curN R c' ++ (intB i' ++ 10 :: r) from tk_hit [32] _] at h2
  have ha2 : As (curN R c' ++ (intB i' ++ 10 :: r)) := by rw [e] at ha; exact ha.right.tail
  obtain ⟨rfl, rfl⟩ := h2 c' _ hc q3 ha2 (by
    unfold intB
    split
    · exact .nl r
    · exact .sp _) rfl
  refine ⟨rfl, rfl, ?_⟩
  by_cases c0 : i' = 0
  · have e3 : intB i' ++ 10 :: r = 10 :: r := by unfold intB; rw [if_pos c0]; rfl
    rw [e3, show hp (10 :: r) tInt = false from rfl, if_neg (by decide)] at hi
    obtain ⟨rfl, rfl⟩ := hi
    exact ⟨c0.symm, tk_hit [10] r⟩
  · have e3 : intB i' ++ 10 :: r = tInt ++ (dec i' ++ (tMille ++ 10 :: r)) := by unfold intB; rw [if_neg c0]; simp only [List.append_assoc]
    rw [e3, show hp (tInt ++ (dec i' ++ (tMille ++ 10 :: r))) tInt = true from hp_hit _ _, if_pos rfl, show tk (tInt ++ (dec i' ++ (tMille ++ 10 :: r))) tInt = dec i' ++ (tMille ++ 10 :: r) from tk_hit _ _] at hi
    obtain ⟨h3, rfl⟩ := hi
    obtain ⟨rfl, rfl⟩ := h3 i' _ (by omega) (by omega) (Nd.cons (by decide)) rfl
    exact ⟨rfl, (congrArg (fun z => tk z [10]) (tk_hit tMille (10 :: r))).trans (tk_hit [10] r)⟩
end Go.Proofs.YtcjakgpmompaiaaGreatDoor.Wd

/-
  The last lines, and the whole text, read (plain).
-/
namespace Go.Proofs.YtcjakgpmompaiaaGreatDoor.Wd
open Rl

theorem index_line : ∀ (a r : L8), (∀ c ∈ a, c ≠ 10) → Lib.index (a ++ 10 :: r) [10] = a.length
  | [], r, _ => by
    show Lib.index (10 :: r) [10] = 0
    unfold Lib.index
    rw [if_pos (by simp [List.isPrefixOf])]
  | c :: a, r, h => by
    show Lib.index (c :: (a ++ 10 :: r)) [10] = _
    have ih := index_line a r (fun x hx => h x (List.mem_cons_of_mem _ hx))
    have hc := h c List.mem_cons_self
    unfold Lib.index
    rw [if_neg (by simp [List.isPrefixOf]; exact fun e => hc e.symm), ih]
    rw [if_neg (by simp), List.length_cons]
    omega
theorem cut_line (a r : L8) (h : ∀ c ∈ a, c ≠ 10) : (Lib.cut (a ++ 10 :: r) [10]).2.1 = r := by
  unfold Lib.cut
  rw [index_line a r h, if_pos (by omega)]
  show List.drop _ _ = _
  rw [Int.toNat_natCast, List.length_singleton]
  rw [show a ++ 10 :: r = (a ++ [10]) ++ r by simp, show a.length + 1 = (a ++ [10]).length by simp, List.drop_left]
theorem idx_find (l : List B) (x : B) : Lib.idxOfS (l.take l.length) x = findV l x := by
  rcases find_cases l x with ⟨k, hk, hb, e⟩ | ⟨hb, e⟩
  · rw [e]
    have hlt := (List.getElem?_eq_some_iff.1 hk).1
    exact Lib.idxOfS_hit l l.length k x hlt (Nat.le_refl _) (by rw [List.getD_eq_getElem?_getD, hk]; rfl) (fun j hj => by
      rw [List.getD_eq_getElem?_getD, List.getElem?_eq_getElem (by omega)]
      exact hb j _ hj (List.getElem?_eq_getElem (by omega)))
  · rw [e]
    exact Lib.idxOfS_miss l l.length x (fun j hj => by
      rw [List.getD_eq_getElem?_getD, List.getElem?_eq_getElem (by omega)]
      exact hb j _ (List.getElem?_eq_getElem (by omega)))

/-- the lines that not every bill has, and what follows -/
def clT (R : Rlm) (u : Option L8) (n : Int) (d : Bool) (r : L8) : L8 :=
  (match u with | some x => tUnless ++ (x ++ 10 :: []) | none => []) ++ ((if n = -1 then [] else tNeed ++ (firmN R n ++ 10 :: [])) ++ ((if d = true then tWithout ++ 10 :: [] else []) ++ (tSigned ++ r)))
def ClR (R : Rlm) (s : L8) (n : Int) (d : Bool) (t : L8) : Prop := ∀ (u : Option L8) (n' : Int) (d' : Bool) (r : L8), checkP R = 0 → As s → (n' = -1 ∨ ix n' R.firms.length = true) → (∀ x, u = some x → ∀ c ∈ x, c ≠ 10) →
  s = clT R u n' d' r → n = n' ∧ d = d' ∧ t = tSigned ++ r
theorem clR_of {R : Rlm} {s s1 s2 s3 t : L8} {n : Int} {c1 c2 d : Bool} (h1 : c1 = hp s tUnless) (e1 : s1 = if c1 = true then (Lib.cut (tk s tUnless) [10]).2.1 else s) (h2 : c2 = hp s1 tNeed)
    (hf : if c2 = true then FirmR R (tk s1 tNeed) n s2 ∧ s3 = tk s2 [10] else n = -1 ∧ s3 = s1) (hd : d = hp s3 (tWithout ++ [10])) (ht : t = if d = true then tk s3 (tWithout ++ [10]) else s3) : ClR R s n d t := by
  intro u n' d' r hc ha hn hu e
  -- behind the line on the other parts
  have hs1 : s1 = (if n' = -1 then [] else tNeed ++ (firmN R n' ++ 10 :: [])) ++ ((if d' = true then tWithout ++ 10 :: [] else []) ++ (tSigned ++ r)) ∧ As s1 := by
    cases u with
    | none =>
      have e2 : s = (if n' = -1 then [] else tNeed ++ (firmN R n' ++ 10 :: [])) ++ ((if d' = true then tWithout ++ 10 :: [] else []) ++ (tSigned ++ r)) := e
      have hno : c1 = false := by
        rw [h1, e2]
        split
        · split <;> exact hp_head _ _ (by decide)
        · exact hp_head _ _ (by decide)
      rw [hno] at e1
      have e3 : s1 = s := e1
      exact ⟨e3.trans e2, by rw [e3]; exact ha⟩
    | some x =>
      have e2 : s = tUnless ++ (x ++ 10 :: ((if n' = -1 then [] else tNeed ++ (firmN R n' ++ 10 :: [])) ++ ((if d' = true then tWithout ++ 10 :: [] else []) ++ (tSigned ++ r)))) := by
        rw [e]
        simp only [clT, List.append_assoc, List.cons_append, List.nil_append]
      have hyes : c1 = true := by rw [h1, e2]; exact hp_hit _ _
      rw [hyes, if_pos rfl, e2, show tk (tUnless ++ (x ++ 10 :: ((if n' = -1 then [] else tNeed ++ (firmN R n' ++ 10 :: [])) ++ ((if d' = true then tWithout ++ 10 :: [] else []) ++ (tSigned ++ r))))) tUnless = _ from tk_hit _ _, cut_line _ _ (hu x rfl)] at e1
      refine ⟨e1, ?_⟩
      rw [e1]
      rw [e2] at ha
      exact ha.right.right.tail
  obtain ⟨hs1, ha1⟩ := hs1
  -- behind the line on need
  have hs3 : n = n' ∧ s3 = (if d' = true then tWithout ++ 10 :: [] else []) ++ (tSigned ++ r) := by
    by_cases c : n' = -1
    · rw [if_pos c, List.nil_append] at hs1
      have hno : c2 = false := by
        rw [h2, hs1]
        split <;> exact hp_head _ _ (by decide)
      rw [hno, if_neg (by decide)] at hf
      exact ⟨hf.1.trans c.symm, hf.2.trans hs1⟩
    · rw [if_neg c] at hs1
      have hi : ix n' R.firms.length = true := by rcases hn with h | h; exact absurd h c; exact h
      have e2 : s1 = tNeed ++ (firmN R n' ++ 10 :: ((if d' = true then tWithout ++ 10 :: [] else []) ++ (tSigned ++ r))) := by
        rw [hs1]
        simp only [List.append_assoc, List.cons_append, List.nil_append]
      have hyes : c2 = true := by rw [h2, e2]; exact hp_hit _ _
      rw [hyes, if_pos rfl, e2, show tk (tNeed ++ (firmN R n' ++ 10 :: ((if d' = true then tWithout ++ 10 :: [] else []) ++ (tSigned ++ r)))) tNeed = _ from tk_hit _ _] at hf
      obtain ⟨hf1, hf2⟩ := hf
      obtain ⟨rfl, rfl⟩ := hf1 n' _ hc hi (by rw [e2] at ha1; exact ha1.right) (.nl _) rfl
      exact ⟨rfl, hf2.trans (tk_hit [10] _)⟩
  obtain ⟨hn2, hs3⟩ := hs3
  refine ⟨hn2, ?_⟩
  cases d' with
  | true =>
    have e2 : s3 = (tWithout ++ [10]) ++ (tSigned ++ r) := hs3
    have hyes : d = true := by rw [hd, e2]; exact hp_hit _ _
    rw [hyes, if_pos rfl, e2] at ht
    exact ⟨hyes, ht.trans (tk_hit _ _)⟩
  | false =>
    have e2 : s3 = tSigned ++ r := hs3
    have hno : d = false := by rw [hd, e2]; exact hp_head _ _ (by decide)
    rw [hno] at ht
    exact ⟨hno, ht.trans e2⟩

def flagsOf (w n o : Bool) : Int := (if w = true then 1 else 0) + (if n = true then 2 else 0) + (if o = true then 4 else 0)
theorem flags_bits {f : Int} (h1 : 0 ≤ f) (h2 : f ≤ 7) : f = flagsOf (bit f 1) (bit f 2) (bit f 4) := by
  have : f = 0 ∨ f = 1 ∨ f = 2 ∨ f = 3 ∨ f = 4 ∨ f = 5 ∨ f = 6 ∨ f = 7 := by omega
  rcases this with rfl | rfl | rfl | rfl | rfl | rfl | rfl | rfl <;> decide
theorem oth_no {N p : Int} : ∀ c ∈ othB N p ++ tWas, c ≠ 10 := by
  have hd : ∀ x ∈ othN N p, ∀ c ∈ x, c ≠ 10 := by
    intro x hx c hc
    unfold othN at hx
    obtain ⟨i, -, rfl⟩ := List.mem_map.1 hx
    have := isD_iff.1 (decD_all _ c hc)
    intro e
    rw [e] at this
    exact absurd this.1 (by decide)
  have hg : ∀ (sp : L8) (l : List L8), (∀ c ∈ sp, c ≠ 10) → (∀ x ∈ l, ∀ c ∈ x, c ≠ 10) → ∀ c ∈ sp.intercalate l, c ≠ 10 := by
    intro sp l hsp
    induction l with
    | nil => intro _ c hc; simp [List.intercalate] at hc
    | cons a t ih =>
      intro h c hc
      cases t with
      | nil =>
        simp [List.intercalate] at hc
        exact h a (by simp) c hc
      | cons b t =>
        have hc2 : c ∈ a ∨ c ∈ sp ∨ c ∈ sp.intercalate (b :: t) := by
          simpa [List.intercalate, List.intersperse] using hc
        rcases hc2 with hc | hc | hc
        · exact h a (by simp) c hc
        · exact hsp c hc
        · exact ih (fun x hx => h x (by simp [hx])) c hc
  intro c hc
  rcases List.mem_append.1 hc with h | h
  · exact hg _ _ (by decide) hd c h
  · intro e; rw [e] at h; exact absurd h (by decide)
/-- the wording, written out -/
theorem word_eq (R : Rlm) (b : Bl) (p : Int) : wordW R b p = (if bit b.flags 1 = true then tBill else tPaper) ++ 32 :: (dec (p + 1) ++ (tOf ++ (dec b.parts ++ 10 :: (tDrawn ++ (cityN R b.city ++ (tOn ++ (dateB b.day ++ 10 :: (tPay ++ (termB b.tk b.tn b.tu ++ 10 :: (tTo ++ (payB R b.payee b.flags ++ 10 ::
    (dec b.sum ++ 32 :: (curN R b.cur ++ (intB b.rate ++ 10 :: (tBy ++ (firmN R b.drawee ++ (tIn ++ (cityN R b.pay ++ 10 :: (clT R (if 1 < b.parts then some (othB b.parts p ++ tWas) else none) b.need (bit b.flags 2) (firmN R b.drawer ++ [10])))))))))))))))))))) := by
  unfold wordW linesW titleB clT
  by_cases c1 : 1 < b.parts <;> by_cases c2 : b.need = -1 <;> by_cases c3 : bit b.flags 2 = true <;> simp [c1, c2, c3]
theorem as_firm {R : Rlm} (h : checkP R = 0) {n : Int} (hn : ix n R.firms.length = true) : As (firmN R n) := (firm_facts h hn).1.as
theorem as_city {R : Rlm} (h : checkP R = 0) {n : Int} (hn : ix n R.cities.length = true) : As (cityN R n) := (city_facts h hn).1.as
theorem as_cur {R : Rlm} (h : checkP R = 0) {n : Int} (hn : ix n R.cur.length = true) : As (curN R n) := (cur_facts h hn).1.as
theorem as_lit {l : L8} (h : l.all (fun c => decide (c.toNat < 128)) = true) : As l := fun c hc => of_decide_eq_true (List.all_eq_true.1 h c hc)
theorem as_nl {s : L8} (h : As s) : As (10 :: s) := .cons (by decide) h
theorem as_sp {s : L8} (h : As s) : As (32 :: s) := .cons (by decide) h
theorem as_term (k n u : Int) : As (termB k n u) := by
  unfold termB perB
  repeat' split
  all_goals first | exact as_lit (by decide) | exact (as_lit (by decide)).app (as_date _) | exact ((As.dec _).app (as_lit (by decide))).app (as_lit (by decide))
theorem as_oth (N p : Int) : As (othB N p) := by
  have hd : ∀ x ∈ othN N p, As x := by
    intro x hx
    unfold othN at hx
    obtain ⟨i, -, rfl⟩ := List.mem_map.1 hx
    exact As.dec _
  have hg : ∀ (sp : L8) (l : List L8), As sp → (∀ x ∈ l, As x) → As (sp.intercalate l) := by
    intro sp l hsp
    induction l with
    | nil => intro _ c hc; simp [List.intercalate] at hc
    | cons a t ih =>
      intro h c hc
      cases t with
      | nil =>
        simp [List.intercalate] at hc
        exact h a (by simp) c hc
      | cons b t =>
        have hc2 : c ∈ a ∨ c ∈ sp ∨ c ∈ sp.intercalate (b :: t) := by
          simpa [List.intercalate, List.intersperse] using hc
        rcases hc2 with hc | hc | hc
        · exact h a (by simp) c hc
        · exact hsp c hc
        · exact ih (fun x hx => h x (by simp [hx])) c hc
  exact hg _ _ (as_lit (by decide)) hd
theorem as_word {R : Rlm} {b : Bl} (h : Rt R b) (p : Int) : As (wordW R b p) := by
  rw [word_eq]
  have l0 : As tBill := as_lit (by decide)
  have l1 : As tPaper := as_lit (by decide)
  have hpay : As (payB R b.payee b.flags) := by
    unfold payB
    split
    · exact as_lit (by decide)
    · rename_i c
      have hf := as_firm h.realm (h.payee.resolve_left c)
      split <;> exact hf.app (as_lit (by decide))
  have hint : As (intB b.rate) := by
    unfold intB
    split
    · exact .nil
    · exact ((as_lit (by decide)).app (As.dec _)).app (as_lit (by decide))
  have hneed : As (if b.need = -1 then [] else tNeed ++ (firmN R b.need ++ 10 :: [])) := by
    split
    · exact .nil
    · rename_i c
      exact (as_lit (by decide)).app ((as_firm h.realm (h.need.resolve_left c)).app (as_nl .nil))
  have hcl : As (clT R (if 1 < b.parts then some (othB b.parts p ++ tWas) else none) b.need (bit b.flags 2) (firmN R b.drawer ++ [10])) := by
    unfold clT
    refine As.app ?_ (hneed.app (As.app ?_ ((as_lit (by decide)).app ((as_firm h.realm h.drawer).app (as_nl .nil)))))
    · split
      · rename_i x e
        split at e
        · cases e
          exact (as_lit (by decide)).app (((as_oth _ _).app (as_lit (by decide))).app (as_nl .nil))
        · cases e
      · exact .nil
    · split
      · exact as_lit (by decide)
      · exact .nil
  refine As.app (by split; exact l0; exact l1) (as_sp ((As.dec _).app ((as_lit (by decide)).app ((As.dec _).app (as_nl ((as_lit (by decide)).app ((as_city h.realm h.city).app ((as_lit (by decide)).app ((as_date _).app (as_nl ((as_lit (by decide)).app ((as_term _ _ _).app (as_nl ((as_lit (by decide)).app (hpay.app (as_nl ((As.dec _).app (as_sp ((as_cur h.realm h.cur).app (hint.app (as_nl ((as_lit (by decide)).app ((as_firm h.realm h.drawee).app ((as_lit (by decide)).app ((as_city h.realm h.pay).app (as_nl hcl))))))))))))))))))))))))))

/-- what the reader reads of a wording is the bill, and the part -/
theorem read_ok {R : Rlm} {s t0 t2 t4 t6 t8 t9 t11 t13 t15 t17 : L8} {w o d : Bool} {part parts city day a n u payee sum cur rate drawee pay need drawer : Int}
    (k0 : HeadR s w part parts t0) (k1 : CityR R (tk t0 tDrawn) city t2) (k2 : DateR (tk t2 tOn) day t4) (k3 : TermR (tk t4 (10 :: tPay)) a n u t6) (k4 : PayR R (tk t6 (10 :: tTo)) payee o t8) (k5 : SumR R t8 sum cur rate t9)
    (k6 : FirmR R (tk t9 tBy) drawee t11) (k7 : CityR R (tk t11 tIn) pay t13) (k8 : ClR R (tk t13 [10]) need d t15) (k9 : FirmR R (tk t15 tSigned) drawer t17) (b : Bl) (p : Int) (h : IsT R (mkB s) b p) :
    b = ⟨drawer, drawee, payee, sum, cur, a, n, u, day, city, pay, need, rate, flagsOf w d o, parts⟩ ∧ p = part := by
  have hr := rt_of h.ok
  have hs : s = wordW R b p := mkB_inj h.eq
  have ha : As s := by rw [hs]; exact as_word hr p
  have hn := tnQ_of hr.tn
  have hpa := hr.parts
  rw [word_eq] at hs
  obtain ⟨rfl, rfl, rfl, rfl⟩ := k0 _ p b.parts _ h.lo h.hi (by omega) hs
  have a0 := ha
  rw [hs] at a0
  replace a0 := a0.right.tail.right.right.right.tail
  replace k1 := Eq.mp (congrArg (fun z => CityR R z city t2) (tk_hit tDrawn _)) k1
  replace a0 := a0.right
  obtain ⟨rfl, rfl⟩ := k1 b.city _ hr.realm hr.city a0 (.sp _) rfl
  replace k2 := Eq.mp (congrArg (fun z => DateR z day t4) (tk_hit tOn _)) k2
  replace a0 := a0.right.right
  obtain ⟨rfl, rfl⟩ := k2 b.day _ hr.day.1 hr.day.2 (Nd.cons (by decide)) rfl
  replace k3 := Eq.mp (congrArg (fun z => TermR z a n u t6) (tk_hit (10 :: tPay) _)) k3
  replace a0 := a0.right.tail.right
  obtain ⟨e1, e2, e3, rfl⟩ := k3 _ _ _ _ hn rfl
  replace k4 := Eq.mp (congrArg (fun z => PayR R z payee o t8) (tk_hit (10 :: tTo) _)) k4
  replace a0 := a0.right.tail.right
  obtain ⟨e4, rfl, rfl⟩ := k4 b.payee (bit b.flags 4) _ hr.realm a0 hr.payee hr.bearer rfl
  replace a0 := a0.right.tail
  obtain ⟨e5, e6, e7, rfl⟩ := k5 b.sum b.cur b.rate _ hr.realm a0 (by have := hr.sum; omega) hr.sum.2 hr.cur hr.rate.1 hr.rate.2 rfl
  replace a0 := a0.right.tail.right.right.tail
  replace k6 := Eq.mp (congrArg (fun z => FirmR R z drawee t11) (tk_hit tBy _)) k6
  replace a0 := a0.right
  obtain ⟨e8, rfl⟩ := k6 b.drawee _ hr.realm hr.drawee a0 (.sp _) rfl
  replace k7 := Eq.mp (congrArg (fun z => CityR R z pay t13) (tk_hit tIn _)) k7
  replace a0 := a0.right.right
  obtain ⟨e9, rfl⟩ := k7 b.pay _ hr.realm hr.pay a0 (.nl _) rfl
  replace k8 := Eq.mp (congrArg (fun z => ClR R z need d t15) (tk_hit [10] _)) k8
  replace a0 := a0.right.tail
  obtain ⟨e10, e11, rfl⟩ := k8 _ b.need (bit b.flags 2) _ hr.realm a0 hr.need (by
    intro x hx
    split at hx
    · cases hx; exact oth_no
    · cases hx) rfl
  replace k9 := Eq.mp (congrArg (fun z => FirmR R z drawer t17) (tk_hit tSigned _)) k9
  have a1 : As (firmN R b.drawer ++ [10]) := (as_firm hr.realm hr.drawer).app (as_nl .nil)
  obtain ⟨e12, -⟩ := k9 b.drawer _ hr.realm hr.drawer a1 (.nl _) rfl
  refine ⟨?_, rfl⟩
  rw [e1, e2, e3, e4, e5, e6, e7, e8, e9, e10, e11, e12, ← flags_bits hr.flags.1 hr.flags.2]
end Go.Proofs.YtcjakgpmompaiaaGreatDoor.Wd

