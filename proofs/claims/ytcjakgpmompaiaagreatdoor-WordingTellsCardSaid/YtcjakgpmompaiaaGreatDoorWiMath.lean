/-
  The plain mathematics of layer 1: decimal encodings of ints, strings and lists, and their readers, as functions on lists of bytes: what was written is read again, what is read was written so, and what is cut off is refused. It imports nothing of the program.
-/
import Derived.Below
import Derived.Test.YtcjakgpmompaiaaGreatDoorProg
import Derived.WalkKit
import Derived.WalkSpells
import Derived.Lib.AppendStr
import Derived.Lib.Hide
import Derived.Laws.IdiomStrings
import Derived.Laws.BytesString
import Derived.Laws.AppendOwnNone
import Derived.Deep.DeepCutAuto
namespace Go.Proofs.YtcjakgpmompaiaaGreatDoor.Wi.Wm

/-- the greatest number of units that is read -/
def top : Nat := 9223372036854775808

/-- decimal digits of v, at most f of them -/
def digF : Nat → Nat → List UInt8
  | 0, _ => []
  | f + 1, v => if v < 10 then [UInt8.ofNat (48 + v)] else digF f (v / 10) ++ [UInt8.ofNat (48 + v % 10)]

def encI (n : Int) : List UInt8 := (if n < 0 then [45] else []) ++ (digF 20 n.natAbs ++ [59])
def encS (s : List UInt8) : List UInt8 := encI s.length ++ s
def encL {α : Type} (enc : α → List UInt8) (l : List α) : List UInt8 := encI l.length ++ (l.map enc).flatten

def isDig (c : UInt8) : Bool := decide (48 ≤ c.toNat) && decide (c.toNat ≤ 57)

def scan : Nat → List UInt8 → Option (Nat × List UInt8)
  | acc, [] => some (acc, [])
  | acc, c :: r => if isDig c then (if top < 10 * acc + (c.toNat - 48) then none else scan (10 * acc + (c.toNat - 48)) r) else some (acc, c :: r)

/-- what stands behind the digits of s, of which there are e, with the value v -/
def fin (s : List UInt8) (v : Nat) (rest : List UInt8) : Option (Nat × List UInt8) :=
  match rest with
  | [] => none
  | c :: r => if rest.length = s.length ∨ c ≠ 59 ∨ (s.head? = some 48 ∧ 1 < s.length - rest.length) then none else some (v, r)

def rdZ (s : List UInt8) : Option (Nat × List UInt8) := (scan 0 s).bind fun p => fin s p.1 p.2

def rdI (s : List UInt8) : Option (Int × List UInt8) :=
  if s.head? = some 45 then (rdZ s.tail).bind fun p => if p.1 = 0 then none else some (-(p.1 : Int), p.2)
  else (rdZ s).bind fun p => if p.1 = top then none else some ((p.1 : Int), p.2)

def rdS (s : List UInt8) : Option (List UInt8 × List UInt8) :=
  (rdI s).bind fun p => if p.1 < 0 ∨ (p.2.length : Int) < p.1 then none else some (p.2.take p.1.toNat, p.2.drop p.1.toNat)

def rdN {α : Type} (rd : List UInt8 → Option (α × List UInt8)) : Nat → List UInt8 → Option (List α × List UInt8)
  | 0, s => some ([], s)
  | k + 1, s => (rd s).bind fun p => (rdN rd k p.2).bind fun q => some (p.1 :: q.1, q.2)

def rdL {α : Type} (rd : List UInt8 → Option (α × List UInt8)) (s : List UInt8) : Option (List α × List UInt8) :=
  (rdI s).bind fun p => if p.1 < 0 then none else rdN rd p.1.toNat p.2

/-! digits -/

theorem toNat_dig {d : Nat} (h : d < 10) : (UInt8.ofNat (48 + d)).toNat = 48 + d := by
  simp [UInt8.toNat_ofNat']; omega

theorem digF_step (f v : Nat) (h : ¬ v < 10) : digF (f + 1) v = digF f (v / 10) ++ [UInt8.ofNat (48 + v % 10)] := by
  rw [digF, if_neg h]
theorem digF_last (f v : Nat) (h : v < 10) : digF (f + 1) v = [UInt8.ofNat (48 + v)] := by
  rw [digF, if_pos h]

theorem top_lt : top < 10 ^ 20 := by decide

/-- the ints -/
def isInt (n : Int) : Prop := -9223372036854775808 ≤ n ∧ n ≤ 9223372036854775807

/-! what is read was written so -/

def val (acc : Nat) (ds : List UInt8) : Nat := ds.foldl (fun a c => 10 * a + (c.toNat - 48)) acc

theorem val_snoc (acc : Nat) (ds : List UInt8) (c : UInt8) : val acc (ds ++ [c]) = 10 * val acc ds + (c.toNat - 48) := by
  simp [val]

/-! strings and lists -/

section
variable {α : Type} {rd : List UInt8 → Option (α × List UInt8)} {enc : α → List UInt8} {ok : α → Prop}

/-- what is cut off is refused -/
theorem cut (hb : ∀ x, ok x → ∀ a, rd (enc x ++ a) = some (x, a)) (ho : ∀ t x r, rd t = some (x, r) → t = enc x ++ r ∧ ok x) (x : α) (hx : ok x) (k : Nat) (hk : k < (enc x).length) :
    rd ((enc x).take k) = none := by
  cases h : rd ((enc x).take k) with
  | none => rfl
  | some p =>
    exfalso
    obtain ⟨e, hy⟩ := ho _ p.1 p.2 h
    have h1 := hb p.1 hy (p.2 ++ (enc x).drop k)
    rw [← List.append_assoc, ← e, List.take_append_drop] at h1
    have h2 := hb x hx []
    rw [List.append_nil, h1] at h2
    simp at h2
    omega
end

end Go.Proofs.YtcjakgpmompaiaaGreatDoor.Wi.Wm

/-
  Small words for the walks of layer 1: bytes as cells, rows that stay owned, lists that a slice reads as.
-/
namespace Go.Proofs.YtcjakgpmompaiaaGreatDoor.Wi
open Go.RowKit


/-- a list of bytes as a string -/
def mk (l : List UInt8) : ByteArray := ⟨l.toArray⟩
def bc (l : List UInt8) : List Value := l.map fun b => Value.int .u8 b.toNat

theorem mk_size (l : List UInt8) : (mk l).size = l.length := rfl
end Go.Proofs.YtcjakgpmompaiaaGreatDoor.Wi

/-
  The reference's Int (layer 1).
-/
namespace Go.Proofs.YtcjakgpmompaiaaGreatDoor.Wi
open Go.RowKit


def half (k : Nat) (a : Nat) : List UInt8 := if a = 0 then [] else Wm.digF k a

/-- behind i rounds -/
def RI (n : Int) (out m i : Value) : Prop := ∃ (k : Nat) (q : Int) (t : List UInt8), k ≤ 20 ∧ i = .int .i64 k ∧ m = .int .i64 q ∧ out = .string (mk (t ++ [59])) ∧ t.length ≤ k ∧
  q.natAbs < 10 ^ (20 - k) ∧ q.natAbs ≤ 9223372036854775808 ∧ (n < 0 → q ≤ 0) ∧ (¬ n < 0 → 0 ≤ q) ∧ ((k = 0 ∧ q = n ∧ t = []) ∨ (1 ≤ k ∧ Wm.digF 20 n.natAbs = half (20 - k) q.natAbs ++ t))

theorem ri_start (n : Int) (hn : Wm.isInt n) : RI n (.string ⟨#[59]⟩) (.int .i64 n) (.int .i64 0) := by
  obtain ⟨h1, h2⟩ := hn
  refine ⟨0, n, [], by omega, rfl, rfl, rfl, by simp, ?_, by omega, by omega, by omega, .inl ⟨rfl, rfl, rfl⟩⟩
  have := Wm.top_lt
  unfold Wm.top at this
  simp only [Nat.sub_zero]
  omega

theorem ri_step {n q : Int} {k : Nat} {t : List UInt8} (hk : k < 20) (hq : q.natAbs < 10 ^ (20 - k)) (hlt : t.length ≤ k) (hq2 : q.natAbs ≤ 9223372036854775808) (hneg : n < 0 → q ≤ 0) (hpos : ¬ n < 0 → 0 ≤ q)
    (h : (k = 0 ∧ q = n ∧ t = []) ∨ (1 ≤ k ∧ Wm.digF 20 n.natAbs = half (20 - k) q.natAbs ++ t)) (hgo : k = 0 ∨ q ≠ 0) (q' : Int) (hq' : q'.natAbs = q.natAbs / 10) (hs1 : q ≤ 0 → q' ≤ 0) (hs2 : 0 ≤ q → 0 ≤ q') (s : ByteArray)
    (hs : s = mk (UInt8.ofNat (48 + q.natAbs % 10) :: (t ++ [59]))) : RI n (.string s) (.int .i64 q') (.int .i64 ((k : Int) + 1)) := by
  refine ⟨k + 1, q', UInt8.ofNat (48 + q.natAbs % 10) :: t, by omega, rfl, rfl, by rw [hs]; rfl, by simp; omega, ?_, by omega, fun hh => hs1 (hneg hh), fun hh => hs2 (hpos hh), .inr ⟨by omega, ?_⟩⟩
  · rw [hq', show 20 - k = (20 - (k + 1)) + 1 from by omega, Nat.pow_succ] at *
    omega
  · have hd : Wm.digF 20 n.natAbs = Wm.digF (20 - k) q.natAbs ++ t := by
      rcases h with ⟨rfl, rfl, rfl⟩ | ⟨h1, h2⟩
      · simp
      · rw [h2, half, if_neg (by omega)]
    rw [hd, hq', show 20 - k = (20 - (k + 1)) + 1 from by omega]
    by_cases h9 : q.natAbs < 10
    · rw [Wm.digF_last _ _ h9, half, if_pos (by omega), show q.natAbs % 10 = q.natAbs from by omega]
      simp
    · rw [Wm.digF_step _ _ h9, half, if_neg (by omega)]
      simp

theorem ri_done {n : Int} {k : Nat} {t : List UInt8} (h : (k = 0 ∧ (0 : Int) = n ∧ t = []) ∨ (1 ≤ k ∧ Wm.digF 20 n.natAbs = half (20 - k) (0 : Int).natAbs ++ t)) (hk : k ≠ 0) : Wm.encI n = (if n < 0 then [45] else []) ++ (t ++ [59]) := by
  rcases h with ⟨h0, _⟩ | ⟨h1, h2⟩
  · exact absurd h0 hk
  · unfold Wm.encI
    rw [h2, show half (20 - k) (0 : Int).natAbs = [] from rfl]
    simp

theorem digit_at (d : Nat) (hd : d < 10) : (⟨#[48, 49, 50, 51, 52, 53, 54, 55, 56, 57]⟩ : ByteArray).extract d (d + 1) = mk [UInt8.ofNat (48 + d)] := by
  have h : ∀ d : Fin 10, (⟨#[48, 49, 50, 51, 52, 53, 54, 55, 56, 57]⟩ : ByteArray).extract d.val (d.val + 1) = mk [UInt8.ofNat (48 + d.val)] := by decide
  exact h ⟨d, hd⟩

theorem dig_str (p a b : Nat) (t : List UInt8) (ha : a = p % 10) (hb : b = p % 10 + 1) : (⟨#[48, 49, 50, 51, 52, 53, 54, 55, 56, 57]⟩ : ByteArray).extract a b ++ mk (t ++ [59]) = mk (UInt8.ofNat (48 + p % 10) :: (t ++ [59])) := by
  subst ha
  subst hb
  rw [digit_at _ (by omega)]
  exact ByteArray.mk_append_mk _ _

theorem cat_minus (t : List UInt8) : (⟨#[45]⟩ : ByteArray) ++ mk t = mk ([45] ++ t) := ByteArray.mk_append_mk _ _

set_option maxHeartbeats 1600000 in
theorem RInt_x (n : Int) (w : World) (hn : Wm.isInt n) : Calls Tryz.prog 83 #[.int .i64 n] w fun e w' => e = .returned (.string (mk (Wm.encI n))) ∧ w = w' := by
  have hst := ri_start n hn
  have Hst := Lib.hid hst
  clear hst hn
  go_enter Tryz.func83, Tryz.ntmps83
  go_wp2_with fail
  go_loop [3, 4, 5] (fun out m i => RI n out m i) (fun _ m i => (intOf m).natAbs + (1 - (intOf i).toNat))
  case atStart => exact Hst.out
  case round =>
    obtain ⟨k, q, t, hk, rfl, rfl, rfl, htl, hq, hq2, hneg, hpos, h⟩ := hrel
    by_cases hgo : k = 0 ∨ q ≠ 0
    · have hk20 : k < 20 := by
        by_cases h20 : k = 20
        · subst h20
          simp at hq
          omega
        · omega
      have hss : (mk (t ++ [59])).size ≤ 21 := by rw [mk_size, List.length_append]; simp; omega
      have Hgo := Lib.hid hgo
      have H := Lib.hid h
      have Hq := Lib.hid hq
      have hb : ((k : Int) == 0) = true ∨ (((k : Int) == 0) = false ∧ (q != 0) = true) := by
        by_cases hk0 : k = 0
        · left; simp [hk0]
        · right; exact ⟨by rw [beq_eq_false_iff_ne]; omega, by rw [bne_iff_ne]; omega⟩
      have Hneg := Lib.hid hneg
      have Hpos := Lib.hid hpos
      clear hgo h hq hneg hpos
      by_cases hq0 : 0 ≤ q
      · obtain ⟨p, rfl⟩ : ∃ p : Nat, q = p := ⟨q.toNat, by omega⟩
        rcases hb with hb | ⟨hb, hb'⟩
        all_goals
          go_wp2
          go_round
          case rel => exact ri_step hk20 Hq.out htl hq2 Hneg.out Hpos.out H.out Hgo.out _ (by omega) (by omega) (by omega) _ (dig_str _ _ _ _ (by omega) (by omega))
          case measure => have := Hgo.out; simp only [intOf]; omega
      · obtain ⟨p, rfl⟩ : ∃ p : Nat, q = -(p : Int) := ⟨(-q).toNat, by omega⟩
        rcases hb with hb | ⟨hb, hb'⟩
        all_goals
          go_wp2
          all_goals
            go_round
            case rel => exact ri_step hk20 Hq.out htl hq2 Hneg.out Hpos.out H.out Hgo.out _ (by omega) (by omega) (by omega) _ (by rw [Int.natAbs_neg, Int.natAbs_natCast]; exact dig_str _ _ _ _ (by omega) (by omega))
            case measure => have := Hgo.out; simp only [intOf]; omega
    · obtain ⟨hk0, rfl⟩ : k ≠ 0 ∧ q = 0 := by omega
      have hE := Lib.hid (ri_done h hk0)
      have hb : ((k : Int) == 0) = false := by rw [beq_eq_false_iff_ne]; omega
      have hss : (mk (t ++ [59])).size ≤ 21 := by rw [mk_size, List.length_append]; simp; omega
      clear h hq hneg hpos hk0
      by_cases hn : n < 0
      · go_wp2
        go_ret
        have he := hE.out
        rw [if_pos (by omega)] at he
        rw [he, ← cat_minus]
        exact ⟨rfl, rfl⟩
      · go_wp2
        go_ret
        have he := hE.out
        rw [if_neg (by omega)] at he
        rw [he]
        exact ⟨rfl, rfl⟩
end Go.Proofs.YtcjakgpmompaiaaGreatDoor.Wi

