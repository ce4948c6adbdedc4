/-
  Journals, plain: headers and their numbers; the log of a disk as bytes.
-/
import Derived.Test.YtemldlhhlneleaaDoorDsk
import Derived.Test.YtemldlhhlneleaaDoorWiMath
namespace Go.Proofs.YtemldlhhlneleaaDoor.Jn
open Dk Wi

abbrev S := List UInt8
def mkB (l : S) : B := ⟨l.toArray⟩
theorem mkB_list (l : S) : (mkB l).data.toList = l := rfl
theorem mkB_of (b : B) : mkB b.data.toList = b := rfl
theorem size_list (b : B) : b.data.toList.length = b.size := rfl
/-- the last f decimal digits of v -/
def hd : Nat → Nat → S
  | 0, _ => []
  | f + 1, v => hd f (v / 10) ++ [UInt8.ofNat (48 + v % 10)]
theorem hd_len : ∀ f v, (hd f v).length = f
  | 0, _ => rfl
  | f + 1, v => by simp only [hd, List.length_append, List.length_singleton, hd_len f]
def header (v : Nat) : B := mkB (hd 8 v ++ hd 8 v)
theorem header_size (v : Nat) : (header v).size = 16 := by
  show (hd 8 v ++ hd 8 v).length = 16
  rw [List.length_append, hd_len]
/-- the value of digits -/
def digs (acc : Nat) : S → Option Nat
  | [] => some acc
  | c :: t => if 48 ≤ c.toNat ∧ c.toNat ≤ 57 then digs (10 * acc + (c.toNat - 48)) t else none
def numL (l : S) : Option Nat := if l.length = 16 ∧ l.take 8 = l.drop 8 then digs 0 (l.take 8) else none
def num (b : B) : Int := match numL b.data.toList with | some v => (v : Int) | none => -1

theorem digs_snoc (c : UInt8) : ∀ (l : S) (acc : Nat), digs acc (l ++ [c]) = (digs acc l).bind fun a => if 48 ≤ c.toNat ∧ c.toNat ≤ 57 then some (10 * a + (c.toNat - 48)) else none
  | [], acc => by
    simp only [List.nil_append, digs, Option.bind_some]
  | x :: t, acc => by
    simp only [List.cons_append, digs]
    split
    · exact digs_snoc c t _
    · rfl
theorem digs_hd : ∀ (f v acc : Nat), v < 10 ^ f → digs acc (hd f v) = some (acc * 10 ^ f + v)
  | 0, v, acc, h => by
    have : v = 0 := by simpa using h
    subst this
    simp [hd, digs]
  | f + 1, v, acc, h => by
    have h1 : v / 10 < 10 ^ f := by
      rw [Nat.pow_succ] at h
      omega
    have h2 : v % 10 < 10 := Nat.mod_lt _ (by omega)
    simp only [hd]
    rw [digs_snoc, digs_hd f (v / 10) acc h1, Option.bind_some, Wm.toNat_dig h2, if_pos (by omega), Nat.pow_succ, ← Nat.mul_assoc]
    congr 1
    omega
theorem hd_digs : ∀ (f : Nat) (l : S) (v : Nat), l.length = f → digs 0 l = some v → l = hd f v ∧ v < 10 ^ f
  | 0, l, v, hl, h => by
    rw [List.length_eq_zero_iff] at hl
    subst hl
    simp only [digs, Option.some.injEq] at h
    subst h
    exact ⟨rfl, by decide⟩
  | f + 1, l, v, hl, h => by
    obtain ⟨i, c, rfl⟩ := Wm.snoc_of l (by intro e; rw [e] at hl; simp at hl)
    have hi : i.length = f := by simpa using hl
    rw [digs_snoc] at h
    cases ha : digs 0 i with
    | none => rw [ha] at h; cases h
    | some a =>
      rw [ha, Option.bind_some] at h
      split at h
      · next hc =>
        simp only [Option.some.injEq] at h
        obtain ⟨e1, e2⟩ := hd_digs f i a hi ha
        have h1 : v / 10 = a := by omega
        have h2 : v % 10 = c.toNat - 48 := by omega
        refine ⟨?_, by rw [Nat.pow_succ]; omega⟩
        simp only [hd]
        rw [h1, ← e1, h2, Wm.ofNat_of c (c.toNat - 48) (by omega)]
      · cases h
theorem num_header {v : Nat} (h : v < 100000000) : num (header v) = (v : Int) := by
  have e : numL (header v).data.toList = some v := by
    unfold numL header
    rw [mkB_list, if_pos]
    · rw [List.take_left' (hd_len 8 v), digs_hd 8 v 0 h]
      simp
    · refine ⟨by rw [List.length_append, hd_len], ?_⟩
      rw [List.take_left' (hd_len 8 v), List.drop_left' (hd_len 8 v)]
  unfold num
  rw [e]
theorem num_only {b : B} {v : Nat} (h : num b = (v : Int)) : b = header v ∧ v < 100000000 := by
  unfold num at h
  cases e : numL b.data.toList with
  | none => rw [e] at h; simp only at h; omega
  | some u =>
    rw [e] at h
    simp only at h
    have hu : u = v := by omega
    subst hu
    unfold numL at e
    split at e
    · next hl =>
      obtain ⟨e1, e2⟩ := hd_digs 8 _ u (by rw [List.length_take]; omega) e
      refine ⟨?_, e2⟩
      have : b.data.toList = hd 8 u ++ hd 8 u := by
        rw [← List.take_append_drop 8 b.data.toList, ← hl.2, e1]
      rw [← mkB_of b, this]
      rfl
    · cases e
theorem num_ge (b : B) : -1 ≤ num b := by
  unfold num
  split <;> omega
theorem num_cases (b : B) : num b = -1 ∨ ∃ v : Nat, num b = (v : Int) := by
  unfold num
  split
  · exact .inr ⟨_, rfl⟩
  · exact .inl rfl
/-- a header that is half written is one with its own number, or none -/
theorem num_torn {v : Nat} {b : B} (hb : b.size = 16) (h : v < 100000000) : num (torn (header v) b) = (v : Int) ∨ num (torn (header v) b) = -1 := by
  have hl := torn_list (a := header v) hb
  rcases num_cases (torn (header v) b) with e | ⟨u, e⟩
  · exact .inr e
  · left
    obtain ⟨e1, e2⟩ := num_only e
    rw [e1] at hl
    unfold header at hl
    rw [mkB_list, mkB_list, List.take_left' (hd_len 8 v)] at hl
    have h8 : hd 8 u = hd 8 v := by
      have := congrArg (List.take 8) hl
      rw [List.take_left' (hd_len 8 u), List.take_left' (hd_len 8 v)] at this
      exact this
    have h9 := digs_hd 8 u 0 e2
    rw [h8, digs_hd 8 v 0 h] at h9
    simp at h9
    rw [e, h9]

/-! the log -/
def lg (l : List B) : S := ((l.drop 2).map fun b => b.data.toList).flatten
def at_ (l : List B) (p : Nat) : Option UInt8 := (l[2 + p / 16]?).bind fun b => b.data.toList[p % 16]?
theorem flat16 : ∀ (ls : List S) (p : Nat), (∀ l ∈ ls, l.length = 16) → ls.flatten[p]? = (ls[p / 16]?).bind fun l => l[p % 16]?
  | [], p, _ => by simp
  | x :: t, p, h => by
    have hx := h x (List.mem_cons_self)
    rw [List.flatten_cons]
    by_cases c : p < 16
    · rw [List.getElem?_append_left (by omega), show p / 16 = 0 by omega, show p % 16 = p by omega]
      simp
    · rw [List.getElem?_append_right (by omega), flat16 t _ (fun l hl => h l (List.mem_cons_of_mem _ hl)), hx, show p / 16 = (p - 16) / 16 + 1 by omega, show p % 16 = (p - 16) % 16 by omega]
      simp
theorem lg_get {l : List B} (h : ∀ b ∈ l, b.size = 16) (p : Nat) : (lg l)[p]? = at_ l p := by
  unfold lg at_
  rw [flat16]
  · rw [List.getElem?_map, List.getElem?_drop]
    cases l[2 + p / 16]? with
    | none => rfl
    | some b => rfl
  · intro x hx
    obtain ⟨b, hb, rfl⟩ := List.mem_map.1 hx
    exact h b (List.mem_of_mem_drop hb)
theorem flat_len : ∀ (ls : List S), (∀ l ∈ ls, l.length = 16) → ls.flatten.length = 16 * ls.length
  | [], _ => rfl
  | x :: t, h => by
    rw [List.flatten_cons, List.length_append, flat_len t (fun l hl => h l (List.mem_cons_of_mem _ hl)), h x (List.mem_cons_self), List.length_cons]
    omega
theorem lg_len {l : List B} (h : ∀ b ∈ l, b.size = 16) : (lg l).length = 16 * (l.length - 2) := by
  unfold lg
  rw [flat_len]
  · rw [List.length_map, List.length_drop]
  · intro x hx
    obtain ⟨b, hb, rfl⟩ := List.mem_map.1 hx
    exact h b (List.mem_of_mem_drop hb)

/-- the first m bytes of the log, and the first two sectors, are as they were -/
structure Ag (m : Nat) (l l' : List B) : Prop where
  len : l'.length = l.length
  s16 : ∀ b ∈ l', b.size = 16
  at_ : ∀ p, p < m → at_ l' p = at_ l p
  h0 : l'[0]? = l[0]?
  h1 : l'[1]? = l[1]?
theorem Ag.refl {l : List B} (h : ∀ b ∈ l, b.size = 16) (m : Nat) : Ag m l l := ⟨rfl, h, fun _ _ => rfl, rfl, rfl⟩
theorem at_set {l : List B} {i : Nat} {t : B} (hi : i < l.length) (p : Nat) : at_ (l.set i t) p = if 2 + p / 16 = i then t.data.toList[p % 16]? else at_ l p := by
  unfold at_
  by_cases c : 2 + p / 16 = i
  · rw [if_pos c, c, List.getElem?_set_self hi]
    rfl
  · rw [if_neg c, List.getElem?_set_ne (fun e => c e.symm)]
theorem Ag.set {m : Nat} {l l' : List B} (h : Ag m l l') {i : Nat} {t : B} (hi : 2 ≤ i) (hl : i < l.length) (ht : t.size = 16) (hp : ∀ p, p < m → 2 + p / 16 = i → t.data.toList[p % 16]? = Jn.at_ l p) : Ag m l (l'.set i t) := by
  refine ⟨by rw [List.length_set]; exact h.len, set_size h.s16 ht, fun p hpm => ?_, ?_, ?_⟩
  · rw [at_set (by rw [h.len]; exact hl)]
    split
    · next c => exact hp p hpm c
    · exact h.at_ p hpm
  · rw [List.getElem?_set_ne (by omega)]; exact h.h0
  · rw [List.getElem?_set_ne (by omega)]; exact h.h1
theorem take_of_at {l : List B} {f : S} {m : Nat} (h : ∀ b ∈ l, b.size = 16) (hf : f.length = m) (hp : ∀ p, p < m → Jn.at_ l p = f[p]?) : (lg l).take m = f := by
  apply List.ext_getElem?
  intro p
  by_cases c : p < m
  · rw [List.getElem?_take_of_lt c, lg_get h, hp p c]
  · rw [List.getElem?_eq_none (by rw [List.length_take]; omega), List.getElem?_eq_none (by omega)]
theorem Ag.take {m : Nat} {l l' : List B} (h : Ag m l l') (h16 : ∀ b ∈ l, b.size = 16) (hm : m ≤ (lg l).length) : (lg l').take m = (lg l).take m := by
  refine take_of_at h.s16 (by rw [List.length_take]; omega) (fun p hp => ?_)
  rw [List.getElem?_take_of_lt hp, lg_get h16]
  exact h.at_ p hp

end Go.Proofs.YtemldlhhlneleaaDoor.Jn

/-
  Journals, plain: what is read of a disk, what Append answers; what was appended is there, also after a power failure.
-/
namespace Go.Proofs.YtemldlhhlneleaaDoor.Jn
open Dk Wi

/-! what bytes encode -/
def decF : Nat → S → Option (List S)
  | 0, l => if l = [] then some [] else none
  | f + 1, l => if l = [] then some [] else (Wm.rdS l).bind fun p => if p.1.length ≤ 2000 then (decF f p.2).map (p.1 :: ·) else none
def encA (l : List S) : S := (l.map Wm.encS).flatten
theorem encA_cons (x : S) (t : List S) : encA (x :: t) = Wm.encS x ++ encA t := rfl
theorem encA_snoc (l : List S) (x : S) : encA (l ++ [x]) = encA l ++ Wm.encS x := by simp [encA]
theorem encS_two (s : S) : 2 ≤ (Wm.encS s).length := by
  have := (Wm.encI_len (s.length : Int)).1
  unfold Wm.encS
  rw [List.length_append]
  omega
theorem decF_nil (f : Nat) : decF f [] = some [] := by cases f <;> simp [decF]
theorem decF_back : ∀ (l : List S) (f : Nat), (∀ s ∈ l, s.length ≤ 2000) → (encA l).length ≤ f → decF f (encA l) = some l
  | [], f, _, _ => decF_nil f
  | x :: t, f, h, hf => by
    rw [encA_cons, List.length_append] at hf
    have h2 := encS_two x
    have hx := h x (List.mem_cons_self)
    cases f with
    | zero => omega
    | succ g =>
      have hne : ¬ encA (x :: t) = [] := by
        intro e
        rw [encA_cons] at e
        have := congrArg List.length e
        rw [List.length_append, List.length_nil] at this
        omega
      simp only [decF]
      rw [if_neg hne, encA_cons, Wm.rdS_back x (by unfold Wm.top; omega), Option.bind_some]
      simp only
      rw [if_pos hx, decF_back t g (fun s hs => h s (List.mem_cons_of_mem _ hs)) (by omega)]
      rfl
theorem decF_only : ∀ (f : Nat) (t : S) (l : List S), decF f t = some l → t = encA l ∧ ∀ s ∈ l, s.length ≤ 2000
  | 0, t, l, h => by
    simp only [decF] at h
    split at h
    · next e =>
      simp only [Option.some.injEq] at h
      subst h
      exact ⟨e, fun s hs => absurd hs (List.not_mem_nil)⟩
    · cases h
  | f + 1, t, l, h => by
    simp only [decF] at h
    split at h
    · next e =>
      simp only [Option.some.injEq] at h
      subst h
      exact ⟨e, fun s hs => absurd hs (List.not_mem_nil)⟩
    · cases hr : Wm.rdS t with
      | none => rw [hr] at h; cases h
      | some p =>
        rw [hr, Option.bind_some] at h
        split at h
        · next hp =>
          cases hd : decF f p.2 with
          | none => rw [hd] at h; cases h
          | some q =>
            rw [hd] at h
            simp only [Option.map_some, Option.some.injEq] at h
            subst h
            obtain ⟨e1, e2⟩ := decF_only f p.2 q hd
            obtain ⟨e3, -⟩ := Wm.rdS_only t p.1 p.2 hr
            refine ⟨by rw [e3, encA_cons, e1], fun s hs => ?_⟩
            rcases List.mem_cons.1 hs with rfl | k
            · exact hp
            · exact e2 s k
        · cases h

/-! what a disk holds -/
def hn (l : List B) (i : Nat) : Int := num ((l[i]?).getD ⟨#[]⟩)
def curI (l : List B) : Int := if hn l 0 < 0 ∧ hn l 1 < 0 then -1 else if hn l 0 < hn l 1 then 1 else 0
def curN (l : List B) : Int := if hn l 0 < hn l 1 then hn l 1 else hn l 0
def rdy (d : D) : Int := if upE d = 0 then (if d.pend = [] then 0 else 7) else upE d
def readL (l : List B) : Option (List S) :=
  if l.length < 3 ∨ curI l < 0 then none else
  if (lg l).length < (curN l).toNat then none else
  (decF (curN l).toNat ((lg l).take (curN l).toNat)).bind fun s => if s.length ≤ 500 then some s else none
def allV (d : D) : List S × Int := if rdy d = 0 then (match readL d.secs with | some l => (l, 0) | none => ([], 22)) else ([], rdy d)
structure Jo (l : List B) (s : List S) : Prop where
  n3 : 3 ≤ l.length
  cur : 0 ≤ hn l 0 ∨ 0 ≤ hn l 1
  top : curN l = ((encA s).length : Int)
  le : (encA s).length ≤ (lg l).length
  take : (lg l).take (encA s).length = encA s
  small : ∀ x ∈ s, x.length ≤ 2000
  few : s.length ≤ 500
theorem hn_ge (l : List B) (i : Nat) : -1 ≤ hn l i := num_ge _
theorem readL_iff {l : List B} {s : List S} : readL l = some s ↔ Jo l s := by
  constructor
  · intro h
    unfold readL at h
    split at h
    · cases h
    · next h1 =>
      split at h
      · cases h
      · next h2 =>
        cases hd : decF (curN l).toNat ((lg l).take (curN l).toNat) with
        | none => rw [hd] at h; cases h
        | some q =>
          rw [hd, Option.bind_some] at h
          split at h
          · next hq =>
            simp only [Option.some.injEq] at h
            subst h
            obtain ⟨e1, e2⟩ := decF_only _ _ _ hd
            have hc : 0 ≤ hn l 0 ∨ 0 ≤ hn l 1 := by
              have h3 : ¬ curI l < 0 := fun e => h1 (.inr e)
              unfold curI at h3
              split at h3
              · omega
              · next h4 => omega
            have hn0 : 0 ≤ curN l := by unfold curN; split <;> omega
            have hl : (encA q).length = (curN l).toNat := by rw [← e1, List.length_take]; omega
            refine ⟨by omega, hc, by omega, by omega, by rw [hl, ← e1], e2, hq⟩
          · cases h
  · intro h
    have hn0 : 0 ≤ curN l := by rw [h.top]; omega
    have ht : (curN l).toNat = (encA s).length := by rw [h.top]; omega
    unfold readL
    rw [if_neg, if_neg, ht, h.take, decF_back s _ h.small (Nat.le_refl _), Option.bind_some, if_pos h.few]
    · have := h.le; omega
    · intro e
      rcases e with e | e
      · have := h.n3; omega
      · unfold curI at e
        have := h.cur
        split at e
        · omega
        · split at e <;> omega
theorem rdy_zero {d : D} : rdy d = 0 ↔ checkB d = true ∧ d.down = false ∧ d.pend = [] := by
  unfold rdy
  constructor
  · intro h
    split at h
    · next hu =>
      split at h
      · next hp => exact ⟨(upE_zero.1 hu).1, (upE_zero.1 hu).2, hp⟩
      · cases h
    · next hu => exact absurd h hu
  · rintro ⟨h1, h2, h3⟩
    rw [if_pos (upE_zero.2 ⟨h1, h2⟩), if_pos h3]
theorem allV_ok {d : D} {l : List S} : allV d = (l, 0) ↔ (checkB d = true ∧ d.down = false ∧ d.pend = []) ∧ Jo d.secs l := by
  rw [← rdy_zero, ← readL_iff]
  unfold allV
  constructor
  · intro h
    split at h
    · next hr =>
      refine ⟨hr, ?_⟩
      split at h
      · next q hq =>
        simp only [Prod.mk.injEq, and_true] at h
        rw [hq, h]
      · simp at h
    · next hr =>
      simp only [Prod.mk.injEq] at h
      exact absurd h.2 hr
  · rintro ⟨h1, h2⟩
    rw [if_pos h1, h2]
theorem Jo.ag {l l' : List B} {s : List S} (h : Jo l s) (ha : Ag (encA s).length l l') (h16 : ∀ b ∈ l, b.size = 16) : Jo l' s := by
  have e0 : hn l' 0 = hn l 0 := by unfold hn; rw [ha.h0]
  have e1 : hn l' 1 = hn l 1 := by unfold hn; rw [ha.h1]
  have el : (lg l').length = (lg l).length := by rw [lg_len ha.s16, lg_len h16, ha.len]
  exact ⟨by rw [ha.len]; exact h.n3, by rw [e0, e1]; exact h.cur, by unfold curN; rw [e0, e1]; exact h.top, by rw [el]; exact h.le, by rw [ha.take h16 h.le]; exact h.take, h.small, h.few⟩

/-! what Append writes -/
def txt (f : S) (i : Nat) : B := mkB ((f.drop (16 * i)).take 16)
def wsF (f : S) (a k : Nat) : List (Int × B) := (List.range' a k).map fun i => (((2 + i : Nat) : Int), pad (txt f i))
theorem pad_list' (s : B) : (pad s).data.toList = s.data.toList ++ List.replicate (16 - s.size) 0 := by unfold pad; rw [app_list, zb_list]
theorem txt_size (f : S) (i : Nat) : (pad (txt f i)).size = 16 := pad_size (by show ((f.drop (16 * i)).take 16).length ≤ 16; rw [List.length_take]; omega)
theorem txt_get {f : S} {i q : Nat} (hq : q < 16) (h : 16 * i + q < f.length) : (pad (txt f i)).data.toList[q]? = f[16 * i + q]? := by
  rw [pad_list', List.getElem?_append_left]
  · unfold txt
    rw [mkB_list, List.getElem?_take_of_lt hq, List.getElem?_drop]
  · unfold txt
    rw [mkB_list, List.length_take, List.length_drop]
    omega
theorem wsF_succ (f : S) (a k : Nat) : wsF f a (k + 1) = wsF f a k ++ [(((2 + (a + k) : Nat) : Int), pad (txt f (a + k)))] := by
  unfold wsF
  rw [List.range'_1_concat, List.map_append]
  rfl
theorem wsF_len (f : S) (a k : Nat) : (wsF f a k).length = k := by unfold wsF; rw [List.length_map, List.length_range']
theorem wsF_mem {f : S} {a k : Nat} {p : Int × B} (h : p ∈ wsF f a k) : ∃ i, a ≤ i ∧ i < a + k ∧ p = (((2 + i : Nat) : Int), pad (txt f i)) := by
  unfold wsF at h
  obtain ⟨i, hi, rfl⟩ := List.mem_map.1 h
  rw [List.mem_range'_1] at hi
  exact ⟨i, hi.1, hi.2, rfl⟩
/-- a write that changes nothing of the first n bytes -/
def Good (n : Nat) (o : List B) (p : Int × B) : Prop := ∃ i : Nat, p.1 = ((2 + i : Nat) : Int) ∧ 2 + i < o.length ∧ p.2.size = 16 ∧ ∀ q, q < n → q / 16 = i → p.2.data.toList[q % 16]? = at_ o q
theorem Ag.perf {n : Nat} {o : List B} : ∀ {ws : List (Int × B)} {l : List B}, Ag n o l → (∀ p ∈ ws, Good n o p) → Ag n o (Dk.perf l ws)
  | [], _, h, _ => h
  | p :: t, l, h, hw => by
    obtain ⟨i, h1, h2, h3, h4⟩ := hw p (List.mem_cons_self)
    refine Ag.perf (ws := t) (l := l.set p.1.toNat p.2) ?_ (fun q hq => hw q (List.mem_cons_of_mem _ hq))
    rw [h1, Int.toNat_natCast]
    exact h.set (by omega) h2 h3 (fun q hq e => h4 q hq (by omega))
theorem wsF_good {o : List B} {f : S} {n a k : Nat} (h16 : ∀ b ∈ o, b.size = 16) (hn : n ≤ f.length) (hf : f.take n = (lg o).take n) (hk : 2 + (a + k) ≤ o.length) : ∀ p ∈ wsF f a k, Good n o p := by
  intro p hp
  obtain ⟨i, h1, h2, rfl⟩ := wsF_mem hp
  refine ⟨i, rfl, by omega, txt_size f i, fun q hq e => ?_⟩
  rw [txt_get (Nat.mod_lt _ (by omega)) (by omega), show 16 * i + q % 16 = q by omega, ← lg_get h16]
  have := congrArg (fun l => l[q]?) hf
  simp only [List.getElem?_take_of_lt hq] at this
  exact this
/-- behind all writes -/
theorem perf_full {o : List B} {f : S} {n a : Nat} (h16 : ∀ b ∈ o, b.size = 16) (hn : n ≤ f.length) (hf : f.take n = (lg o).take n) (ha : 16 * a ≤ n) : ∀ (k : Nat), 2 + (a + k) ≤ o.length → ∀ q, q < f.length → q < 16 * (a + k) → at_ (perf o (wsF f a k)) q = f[q]?
  | 0, _, q, _, h2 => by
    show at_ o q = _
    rw [← lg_get h16]
    have := congrArg (fun l => l[q]?) hf
    simp only [List.getElem?_take_of_lt (show q < n by omega)] at this
    exact this.symm
  | k + 1, hk, q, h1, h2 => by
    rw [wsF_succ, perf_app, perf_one, Int.toNat_natCast, at_set (by rw [perf_len]; omega)]
    split
    · next c => rw [txt_get (Nat.mod_lt _ (by omega)) (by omega), show 16 * (a + k) + q % 16 = q by omega]
    · exact perf_full h16 hn hf ha k (by omega) q h1 (by omega)

end Go.Proofs.YtemldlhhlneleaaDoor.Jn

/-
  Journals, plain: Append: the string is there; or, after a power failure, it is there as a whole, or not at all.
-/
namespace Go.Proofs.YtemldlhhlneleaaDoor.Jn
open Dk Wi

def fullF (d : D) (n : Nat) (c : S) : S := (lg d.secs).take n ++ c
/-- the data -/
def app1 (d : D) (n : Nat) (c : S) : D := ⟨d.secs, wsF (fullF d n c) (n / 16) ((n + c.length + 15) / 16 - n / 16), d.left, d.down⟩
def othI (l : List B) : Int := 1 - curI l
/-- the header -/
def app2 (d x : D) (n : Nat) : D := ⟨x.secs, [(othI d.secs, header n)], x.left, x.down⟩
def appV (d : D) (s : S) : D × Int :=
  if (allV d).2 = 0 then
    if s.length ≤ 2000 then
      if (allV d).1.length < 500 ∧ (encA (allV d).1).length + (Wm.encS s).length ≤ 16 * (d.secs.length - 2) then
        if (flV (app1 d (encA (allV d).1).length (Wm.encS s))).2 = 0 then
          flV (app2 d (flV (app1 d (encA (allV d).1).length (Wm.encS s))).1 ((encA (allV d).1).length + (Wm.encS s).length))
        else flV (app1 d (encA (allV d).1).length (Wm.encS s))
      else (D0, 6)
    else (D0, 1)
  else (D0, (allV d).2)

/-- the disk after Start -/
def up1 (d : D) : D := ⟨d.secs, d.pend, d.left, false⟩
theorem allV_up {l : List B} {left : Int} (s : List S) (h : checkB ⟨l, [], left, false⟩ = true) (hj : Jo l s) : allV ⟨l, [], left, false⟩ = (s, 0) := allV_ok.2 ⟨⟨h, rfl, rfl⟩, hj⟩
theorem hn_set_same {l : List B} {i : Nat} {b : B} (h : i < l.length) : hn (l.set i b) i = num b := by unfold hn; rw [List.getElem?_set_self h]; rfl
theorem hn_set_ne {l : List B} {i j : Nat} {b : B} (h : i ≠ j) : hn (l.set i b) j = hn l j := by unfold hn; rw [List.getElem?_set_ne h]
theorem lg_set {l : List B} {i : Nat} {b : B} (h : i < 2) : lg (l.set i b) = lg l := by
  unfold lg
  rw [List.drop_set, if_pos h]

section
variable {d : D} {l : List S} {s : S} {n : Nat} {c : S}
theorem full_len (h : n ≤ (lg d.secs).length) : (fullF d n c).length = n + c.length := by unfold fullF; rw [List.length_append, List.length_take]; omega
theorem full_take (h : n ≤ (lg d.secs).length) : (fullF d n c).take n = (lg d.secs).take n := by
  unfold fullF
  rw [List.take_left' (by rw [List.length_take]; omega)]

/-- a log that begins with the encodings, its headers as they were -/
theorem Jo.more {o : List B} (hj : Jo d.secs l) (_h16 : ∀ b ∈ d.secs, b.size = 16) (ha : Ag (encA l).length d.secs o) (hs : s.length ≤ 2000) (hl : l.length < 500) (ht : (lg o).take (encA (l ++ [s])).length = encA (l ++ [s])) (hle : (encA (l ++ [s])).length ≤ (lg o).length)
    {i : Nat} (hi : (i : Int) = othI d.secs) {b : B} (hb : num b = ((encA (l ++ [s])).length : Int)) : Jo (o.set i b) (l ++ [s]) := by
  have hcur := hj.cur
  have hi2 : i < 2 := by unfold othI curI at hi; split at hi <;> (try split at hi) <;> omega
  have h3 := hj.n3
  have hlen := ha.len
  have e0 : hn o 0 = hn d.secs 0 := by unfold hn; rw [ha.h0]
  have e1 : hn o 1 = hn d.secs 1 := by unfold hn; rw [ha.h1]
  have hm : (encA (l ++ [s])).length = (encA l).length + (Wm.encS s).length := by rw [encA_snoc, List.length_append]
  have h2 := encS_two s
  have htop := hj.top
  refine ⟨by rw [List.length_set]; omega, ?_, ?_, by rw [lg_set hi2]; exact hle, by rw [lg_set hi2]; exact ht, ?_, by rw [List.length_append, List.length_singleton]; omega⟩
  · rcases Nat.lt_or_ge i 1 with k | k
    · have : i = 0 := by omega
      subst this
      left; rw [hn_set_same (by omega), hb]; omega
    · have : i = 1 := by omega
      subst this
      right; rw [hn_set_same (by omega), hb]; omega
  · unfold curN
    unfold curN at htop
    unfold othI curI at hi
    rcases Nat.lt_or_ge i 1 with k | k
    · have : i = 0 := by omega
      subst this
      rw [hn_set_same (by omega), hn_set_ne (by omega), hb, e1]
      split at hi
      · omega
      · split at hi
        · next q => rw [if_pos q] at htop; rw [if_neg (by omega)]
        · omega
    · have : i = 1 := by omega
      subst this
      rw [hn_set_same (by omega), hn_set_ne (by omega), hb, e0]
      split at hi
      · omega
      · split at hi
        · omega
        · next q => rw [if_neg q] at htop; rw [if_pos (by omega)]
  · intro x hx
    rcases List.mem_append.1 hx with k | k
    · exact hj.small x k
    · rw [List.mem_singleton] at k; subst k; exact hs
/-- a header that is none, in the other place -/
theorem Jo.same {o : List B} (hj : Jo o l) {i : Nat} (hi : (i : Int) = othI o) {b : B} (hb : num b = -1) : Jo (o.set i b) l := by
  have hcur := hj.cur
  have hi2 : i < 2 := by unfold othI curI at hi; split at hi <;> (try split at hi) <;> omega
  have h3 := hj.n3
  have htop := hj.top
  have hg0 := hn_ge o 0
  have hg1 := hn_ge o 1
  have hc0 : curN (o.set i b) = curN o ∧ (0 ≤ hn (o.set i b) 0 ∨ 0 ≤ hn (o.set i b) 1) := by
    unfold othI curI at hi
    unfold curN
    rcases Nat.lt_or_ge i 1 with k | k
    · have : i = 0 := by omega
      subst this
      rw [hn_set_same (by omega), hn_set_ne (by omega), hb]
      split at hi
      · omega
      · split at hi
        · next q => rw [if_pos q, if_pos (by omega)]; exact ⟨rfl, .inr (by omega)⟩
        · omega
    · have : i = 1 := by omega
      subst this
      rw [hn_set_same (by omega), hn_set_ne (by omega), hb]
      split at hi
      · omega
      · split at hi
        · omega
        · next q => rw [if_neg q, if_neg (by omega)]; exact ⟨rfl, .inl (by omega)⟩
  exact ⟨by rw [List.length_set]; exact h3, hc0.2, by rw [hc0.1]; exact htop, by rw [lg_set hi2]; exact hj.le, by rw [lg_set hi2]; exact hj.take, hj.small, hj.few⟩
end

theorem torn_get {a b : B} (ha : a.size = 16) (hb : b.size = 16) (q : Nat) : (torn a b).data.toList[q]? = if q < 8 then a.data.toList[q]? else b.data.toList[q]? := by
  have hl : (a.data.toList.take 8).length = 8 := by rw [List.length_take]; have : a.data.toList.length = 16 := ha; omega
  rw [torn_list hb]
  split
  · next h => rw [List.getElem?_append_left (by omega), List.getElem?_take_of_lt h]
  · next h => rw [List.getElem?_append_right (by omega), List.getElem?_drop, hl, show 8 + (q - 8) = q by omega]
theorem othI_ok {l : List B} (h : 0 ≤ hn l 0 ∨ 0 ≤ hn l 1) : ∃ i : Nat, (i : Int) = othI l ∧ i < 2 := by
  unfold othI curI
  rw [if_neg (by omega)]
  split
  · exact ⟨0, rfl, by omega⟩
  · exact ⟨1, rfl, by omega⟩
/-- what is pending when the data are flushed -/
theorem app1_check {d : D} {n : Nat} {c : S} (hck : checkB d = true) (hd : d.down = false) (_hn : n ≤ (lg d.secs).length) (hc : 2 ≤ c.length) (hf : n + c.length ≤ (lg d.secs).length) : checkB (app1 d n c) = true ∧ (app1 d n c).down = false ∧ 2 + (n / 16 + ((n + c.length + 15) / 16 - n / 16)) ≤ d.secs.length := by
  obtain ⟨h1, h2, h3, h4⟩ := check_iff.1 hck
  have hl := lg_len h2
  have hk : 2 + (n / 16 + ((n + c.length + 15) / 16 - n / 16)) ≤ d.secs.length := by omega
  refine ⟨check_iff.2 ⟨⟨h1.1, h1.2.1, ?_, h1.2.2.2⟩, h2, fun p hp => ?_, fun e => ?_⟩, hd, hk⟩
  · show (wsF _ _ _).length ≤ 512
    rw [wsF_len]
    omega
  · obtain ⟨i, i1, i2, rfl⟩ := wsF_mem hp
    show 0 ≤ ((2 + i : Nat) : Int) ∧ ((2 + i : Nat) : Int) < (d.secs.length : Int) ∧ _
    exact ⟨by omega, by omega, txt_size _ _⟩
  · change d.down = true at e
    rw [hd] at e
    cases e

/-- THE LAYER's THEOREM. -/
theorem app_all {d : D} {l : List S} {s : S} (h : allV d = (l, 0)) (hs : s.length ≤ 2000) (hl : l.length < 500) (hf : (encA l).length + (Wm.encS s).length ≤ 16 * (d.secs.length - 2)) :
    (∃ d', appV d s = (d', 0) ∧ allV d' = (l ++ [s], 0) ∧ d'.secs.length = d.secs.length ∧ (d.left = -1 → d'.left = -1) ∧ (lg d'.secs).take (encA (l ++ [s])).length = encA (l ++ [s]) ∧ (∀ i : Nat, (i : Int) = othI d.secs → hn d'.secs i = ((encA (l ++ [s])).length : Int)) ∧ (∀ i : Nat, i < 2 → (i : Int) ≠ othI d.secs → hn d'.secs i = hn d.secs i)) ∨
    (0 ≤ d.left ∧ ∃ d', appV d s = (d', 8) ∧ checkB d' = true ∧ d'.down = true ∧ d'.secs.length = d.secs.length ∧ (allV (up1 d') = (l, 0) ∨ allV (up1 d') = (l ++ [s], 0)) ∧ (up1 d').left = -1) := by
  obtain ⟨⟨hck, hdn, hpn⟩, hj⟩ := allV_ok.1 h
  obtain ⟨h1, h16, h3, h4⟩ := check_iff.1 hck
  obtain ⟨n, hn⟩ : ∃ n, (encA l).length = n := ⟨_, rfl⟩
  obtain ⟨c, hc⟩ : ∃ c, Wm.encS s = c := ⟨_, rfl⟩
  have c2 : 2 ≤ c.length := by rw [← hc]; exact encS_two s
  have hle := hj.le
  have hlg := lg_len h16
  rw [hn] at hle hf
  rw [hc] at hf
  obtain ⟨x1, x2, x3⟩ := app1_check (c := c) hck hdn hle c2 (by omega)
  have hm : (encA (l ++ [s])).length = n + c.length := by rw [encA_snoc, List.length_append, hn, hc]
  have hfull : fullF d n c = encA (l ++ [s]) := by unfold fullF; rw [encA_snoc, ← hn, hj.take, hc]
  have fl := full_len (c := c) hle
  have ft := full_take (c := c) hle
  have hav : appV d s = if (flV (app1 d n c)).2 = 0 then flV (app2 d (flV (app1 d n c)).1 (n + c.length)) else flV (app1 d n c) := by
    unfold appV
    rw [h]
    simp only
    rw [if_pos trivial, if_pos hs, hn, hc, if_pos ⟨hl, hf⟩]
  have good := wsF_good (f := fullF d n c) (n := n) (a := n / 16) (k := (n + c.length + 15) / 16 - n / 16) h16 (by omega) ft x3
  obtain ⟨W, hW⟩ : ∃ W, wsF (fullF d n c) (n / 16) ((n + c.length + 15) / 16 - n / 16) = W := ⟨_, rfl⟩
  have hA1 : app1 d n c = ⟨d.secs, W, d.left, d.down⟩ := by unfold app1; rw [hW]
  rw [hW] at good
  by_cases k : 0 ≤ d.left ∧ d.left < (W.length : Int)
  · -- the power fails among the data
    right
    refine ⟨k.1, ?_⟩
    obtain ⟨q, hq⟩ : ∃ q, W[d.left.toNat]? = some q := ⟨_, List.getElem?_eq_getElem (by omega)⟩
    have hfl : flV (app1 d n c) = (tearD (app1 d n c), 8) := by
      unfold flV
      rw [if_pos (upE_zero.2 ⟨x1, x2⟩), if_pos (by rw [hA1]; exact k)]
    refine ⟨tearD (app1 d n c), by rw [hav, hfl]; rfl, check_tear (w := q) x1 (by rw [hA1]; exact hq), rfl, ?_, .inl ?_, rfl⟩
    · unfold tearD tearL
      rw [hA1]
      simp only [List.length_set, perf_len]
    · have hta : (tearD (app1 d n c)) = ⟨(perf d.secs (W.take d.left.toNat)).set q.1.toNat (torn q.2 (((perf d.secs (W.take d.left.toNat))[q.1.toNat]?).getD ⟨#[]⟩)), [], -1, true⟩ := by
        unfold tearD tearL
        rw [hA1]
        simp only
        rw [hq]
        rfl
      have hck2 := check_start (check_tear (w := q) x1 (by rw [hA1]; exact hq))
      rw [hta] at hck2 ⊢
      have hag : Ag n d.secs (perf d.secs (W.take d.left.toNat)) := Ag.perf (Ag.refl h16 n) (fun p hp => good p (List.mem_of_mem_take hp))
      obtain ⟨i, i1, i2, i3, i4⟩ := good q (List.mem_of_getElem? hq)
      refine allV_up l hck2 (hj.ag ?_ h16)
      rw [hn, i1, Int.toNat_natCast]
      obtain ⟨old, ho⟩ : ∃ old, (perf d.secs (W.take d.left.toNat))[2 + i]? = some old := ⟨_, List.getElem?_eq_getElem (by rw [perf_len]; exact i2)⟩
      have ho16 := hag.s16 old (List.mem_of_getElem? ho)
      rw [ho, Option.getD_some]
      refine hag.set (by omega) i2 (torn_size i3 ho16) (fun p hp e => ?_)
      rw [torn_get i3 ho16]
      split
      · exact i4 p hp (by omega)
      · have h5 := hag.at_ p hp
        unfold at_ at h5 ⊢
        rw [e, ho, Option.bind_some] at h5
        rw [e]
        exact h5
  · -- the data are there
    obtain ⟨o, ho⟩ : ∃ o, perf d.secs W = o := ⟨_, rfl⟩
    obtain ⟨lf, hlf⟩ : ∃ x : Int, (if 0 ≤ d.left then d.left - W.length else -1) = x := ⟨_, rfl⟩
    have hfl : flV (app1 d n c) = (⟨o, [], lf, false⟩, 0) := by
      unfold flV
      rw [if_pos (upE_zero.2 ⟨x1, x2⟩), if_neg (by rw [hA1]; exact k)]
      unfold flushD
      rw [hA1]
      simp only
      rw [ho, hlf]
    have hag : Ag n d.secs o := by rw [← ho]; exact Ag.perf (Ag.refl h16 n) good
    have hlo : (lg o).length = 16 * (d.secs.length - 2) := by rw [lg_len hag.s16, hag.len]
    have ht : (lg o).take (encA (l ++ [s])).length = encA (l ++ [s]) := by
      refine take_of_at hag.s16 rfl (fun p hp => ?_)
      rw [← ho, ← hW, perf_full h16 (n := n) (by omega) ft (by omega) _ x3 p (by omega) (by omega), hfull]
    have hj1 : Jo o l := hj.ag (by rw [hn]; exact hag) h16
    obtain ⟨i, hi, hi2⟩ := othI_ok hj.cur
    have hi' : (i : Int) = othI o := by
      rw [hi]
      have e0 : Jn.hn o 0 = Jn.hn d.secs 0 := by unfold Jn.hn; rw [hag.h0]
      have e1 : Jn.hn o 1 = Jn.hn d.secs 1 := by unfold Jn.hn; rw [hag.h1]
      unfold othI curI
      rw [e0, e1]
    have hx : app2 d (⟨o, [], lf, false⟩ : D) (n + c.length) = ⟨o, [((i : Int), header (n + c.length))], lf, false⟩ := by unfold app2; rw [← hi]
    have hlw : W.length ≤ 512 := by rw [← hW, wsF_len]; omega
    have hlf1 : -1 ≤ lf ∧ lf ≤ 512 := by rw [← hlf]; split <;> omega
    have h3' := hj.n3
    have y1 : checkB ⟨o, [((i : Int), header (n + c.length))], lf, false⟩ = true := by
      refine check_iff.2 ⟨⟨by rw [hag.len]; exact h1.1, by rw [hag.len]; exact h1.2.1, by show 1 ≤ 512; omega, hlf1⟩, hag.s16, fun p hp => ?_, fun e => by cases e⟩
      simp only [List.mem_singleton] at hp
      subst hp
      exact ⟨by show 0 ≤ (i : Int); omega, by show (i : Int) < (o.length : Int); rw [hag.len]; omega, header_size _⟩
    have hsm : n + c.length < 100000000 := by omega
    have hle2 : (encA (l ++ [s])).length ≤ (lg o).length := by omega
    have hav2 : appV d s = flV ⟨o, [((i : Int), header (n + c.length))], lf, false⟩ := by
      rw [hav, hfl]
      simp only
      rw [if_pos trivial, hx]
    by_cases k2 : 0 ≤ lf ∧ lf < 1
    · -- the power fails at the header
      right
      have hl0 : lf = 0 := by omega
      subst hl0
      have hdl : 0 ≤ d.left := by
        apply Classical.byContradiction
        intro e
        rw [if_neg e] at hlf
        omega
      refine ⟨hdl, ?_⟩
      obtain ⟨old, hold⟩ : ∃ old, o[i]? = some old := ⟨_, List.getElem?_eq_getElem (by rw [hag.len]; omega)⟩
      have ho16 := hag.s16 old (List.mem_of_getElem? hold)
      have hta : tearD ⟨o, [((i : Int), header (n + c.length))], 0, false⟩ = ⟨o.set i (torn (header (n + c.length)) old), [], -1, true⟩ := by
        unfold tearD tearL
        show D.mk ((perf o []).set (i : Int).toNat (torn (header (n + c.length)) (((perf o [])[(i : Int).toNat]?).getD ⟨#[]⟩))) _ _ _ = _
        rw [Int.toNat_natCast]
        show D.mk (o.set i (torn (header (n + c.length)) ((o[i]?).getD ⟨#[]⟩))) _ _ _ = _
        rw [hold]
        rfl
      have hfl2 : flV ⟨o, [((i : Int), header (n + c.length))], 0, false⟩ = (tearD ⟨o, [((i : Int), header (n + c.length))], 0, false⟩, 8) := by
        unfold flV
        rw [if_pos (upE_zero.2 ⟨y1, rfl⟩), if_pos ⟨Int.le_refl _, by show (0 : Int) < 1; omega⟩]
      have hck2 := check_tear (d := ⟨o, [((i : Int), header (n + c.length))], 0, false⟩) (w := ((i : Int), header (n + c.length))) y1 rfl
      refine ⟨_, by rw [hav2, hfl2], hck2, rfl, by rw [hta]; show (o.set i _).length = _; rw [List.length_set, hag.len], ?_, rfl⟩
      have hck3 := check_start hck2
      rw [hta] at hck3 ⊢
      rcases num_torn (v := n + c.length) ho16 hsm with e | e
      · exact .inr (allV_up _ hck3 (hj.more h16 (by rw [hn]; exact hag) hs hl ht hle2 hi (by rw [hm]; exact e)))
      · exact .inl (allV_up _ hck3 (hj1.same hi' e))
    · left
      have hfl2 : flV ⟨o, [((i : Int), header (n + c.length))], lf, false⟩ = (flushD ⟨o, [((i : Int), header (n + c.length))], lf, false⟩, 0) := by
        unfold flV
        rw [if_pos (upE_zero.2 ⟨y1, rfl⟩), if_neg (by show ¬ (0 ≤ lf ∧ lf < 1); exact k2)]
      have hfd : flushD ⟨o, [((i : Int), header (n + c.length))], lf, false⟩ = ⟨o.set i (header (n + c.length)), [], if 0 ≤ lf then lf - 1 else -1, false⟩ := by
        unfold flushD
        simp only
        rw [perf_one, Int.toNat_natCast]
        rfl
      have hck2 := check_flush y1 (by show ¬ (0 ≤ lf ∧ lf < 1); exact k2)
      rw [hfd] at hck2
      have hnum : num (header (n + c.length)) = ((encA (l ++ [s])).length : Int) := by rw [hm]; exact num_header hsm
      refine ⟨⟨o.set i (header (n + c.length)), [], if 0 ≤ lf then lf - 1 else -1, false⟩, by rw [hav2, hfl2, hfd], allV_up _ hck2 (hj.more h16 (by rw [hn]; exact hag) hs hl ht hle2 hi hnum), by show (o.set i _).length = _; rw [List.length_set, hag.len], fun e => ?_, by show (lg (o.set i _)).take _ = _; rw [lg_set hi2]; exact ht, fun i' e => ?_, fun i' e1 e2 => ?_⟩
      · show (if 0 ≤ lf then lf - 1 else -1) = -1
        rw [e, if_neg (by omega)] at hlf
        rw [← hlf, if_neg (by omega)]
      · have : i' = i := by omega
        subst this
        show Jn.hn (o.set i' _) i' = _
        rw [hn_set_same (by rw [hag.len]; omega), hnum]
      · show Jn.hn (o.set i _) i' = _
        rw [hn_set_ne (by omega)]
        unfold Jn.hn
        rcases Nat.lt_or_ge i' 1 with q | q
        · rw [show i' = 0 by omega, hag.h0]
        · rw [show i' = 1 by omega, hag.h1]

end Go.Proofs.YtemldlhhlneleaaDoor.Jn

