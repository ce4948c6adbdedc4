/-
  The plain mathematics of layer 1: decimal encodings of ints, strings and lists, and their readers, as functions on lists of bytes: what was written is read again, what is read was written so, and what is cut off is refused. It imports nothing of the program.
-/
import Derived.Below
namespace Go.Proofs.YtemldlhhlneleaaDoor.Wi.Wm

/-- the greatest number of units that is read -/
def top : Nat := 9223372036854775808

/-- decimal digits of v, at most f of them -/
def digF : Nat → Nat → List UInt8
  | 0, _ => []
  | f + 1, v => if v < 10 then [UInt8.ofNat (48 + v)] else digF f (v / 10) ++ [UInt8.ofNat (48 + v % 10)]

def encI (n : Int) : List UInt8 := (if n < 0 then [45] else []) ++ (digF 20 n.natAbs ++ [59])
def encS (s : List UInt8) : List UInt8 := encI s.length ++ s
def encL {α : Type} (enc : α → List UInt8) (l : List α) : List UInt8 := encI l.length ++ (l.map enc).flatten

def isDig (c : UInt8) : Bool := decide (48 ≤ c.toNat) && decide (c.toNat ≤ 57)

def scan : Nat → List UInt8 → Option (Nat × List UInt8)
  | acc, [] => some (acc, [])
  | acc, c :: r => if isDig c then (if top < 10 * acc + (c.toNat - 48) then none else scan (10 * acc + (c.toNat - 48)) r) else some (acc, c :: r)

/-- what stands behind the digits of s, of which there are e, with the value v -/
def fin (s : List UInt8) (v : Nat) (rest : List UInt8) : Option (Nat × List UInt8) :=
  match rest with
  | [] => none
  | c :: r => if rest.length = s.length ∨ c ≠ 59 ∨ (s.head? = some 48 ∧ 1 < s.length - rest.length) then none else some (v, r)

def rdZ (s : List UInt8) : Option (Nat × List UInt8) := (scan 0 s).bind fun p => fin s p.1 p.2

def rdI (s : List UInt8) : Option (Int × List UInt8) :=
  if s.head? = some 45 then (rdZ s.tail).bind fun p => if p.1 = 0 then none else some (-(p.1 : Int), p.2)
  else (rdZ s).bind fun p => if p.1 = top then none else some ((p.1 : Int), p.2)

def rdS (s : List UInt8) : Option (List UInt8 × List UInt8) :=
  (rdI s).bind fun p => if p.1 < 0 ∨ (p.2.length : Int) < p.1 then none else some (p.2.take p.1.toNat, p.2.drop p.1.toNat)

def rdN {α : Type} (rd : List UInt8 → Option (α × List UInt8)) : Nat → List UInt8 → Option (List α × List UInt8)
  | 0, s => some ([], s)
  | k + 1, s => (rd s).bind fun p => (rdN rd k p.2).bind fun q => some (p.1 :: q.1, q.2)

def rdL {α : Type} (rd : List UInt8 → Option (α × List UInt8)) (s : List UInt8) : Option (List α × List UInt8) :=
  (rdI s).bind fun p => if p.1 < 0 then none else rdN rd p.1.toNat p.2

/-! digits -/

theorem toNat_dig {d : Nat} (h : d < 10) : (UInt8.ofNat (48 + d)).toNat = 48 + d := by
  simp [UInt8.toNat_ofNat']; omega

theorem digF_pos (f v : Nat) : 1 ≤ (digF (f + 1) v).length := by
  unfold digF
  split <;> simp

theorem digF_le (f v : Nat) : (digF f v).length ≤ f := by
  induction f generalizing v with
  | zero => simp [digF]
  | succ f ih =>
    unfold digF
    split
    · simp
    · have := ih (v / 10); simp; omega

theorem digF_step (f v : Nat) (h : ¬ v < 10) : digF (f + 1) v = digF f (v / 10) ++ [UInt8.ofNat (48 + v % 10)] := by
  rw [digF, if_neg h]
theorem digF_last (f v : Nat) (h : v < 10) : digF (f + 1) v = [UInt8.ofNat (48 + v)] := by
  rw [digF, if_pos h]

/-- a number above 0 begins with no zero -/
theorem digF_head (f v : Nat) (h0 : 0 < v) (hf : v < 10 ^ f) : ∃ c r, digF f v = c :: r ∧ 49 ≤ c.toNat ∧ c.toNat ≤ 57 := by
  induction f generalizing v with
  | zero => simp at hf; omega
  | succ f ih =>
    by_cases h : v < 10
    · refine ⟨_, _, digF_last f v h, ?_, ?_⟩ <;> rw [toNat_dig h] <;> omega
    · obtain ⟨c, r, e, h1, h2⟩ := ih (v / 10) (by omega) (by rw [Nat.pow_succ] at hf; omega)
      rw [digF_step f v h, e]
      exact ⟨c, _, rfl, h1, h2⟩

theorem isDig_dig {d : Nat} (h : d < 10) : isDig (UInt8.ofNat (48 + d)) = true := by
  unfold isDig; rw [toNat_dig h]; simp; omega

theorem scan_dig (acc d : Nat) (h : d < 10) (r : List UInt8) (hb : 10 * acc + d ≤ top) : scan acc (UInt8.ofNat (48 + d) :: r) = scan (10 * acc + d) r := by
  rw [scan, if_pos (isDig_dig h), toNat_dig h, show 48 + d - 48 = d from by omega, if_neg (by omega)]

theorem scan_digF (f v : Nat) (hv : v ≤ top) (hf : v < 10 ^ f) (hf0 : 0 < f) (a : List UInt8) : scan 0 (digF f v ++ a) = scan v a := by
  induction f generalizing v a with
  | zero => omega
  | succ f ih =>
    by_cases h : v < 10
    · rw [digF_last f v h]
      show scan 0 (UInt8.ofNat (48 + v) :: a) = _
      rw [scan_dig 0 v h a (by omega)]
      congr 1
      omega
    · rw [digF_step f v h, List.append_assoc]
      have hf1 : 0 < f := by
        cases f with
        | zero => simp at hf; omega
        | succ f => omega
      rw [ih (v / 10) (by omega) (by rw [Nat.pow_succ] at hf; omega) hf1]
      show scan (v / 10) (UInt8.ofNat (48 + v % 10) :: a) = _
      rw [scan_dig (v / 10) (v % 10) (by omega) a (by omega)]
      congr 1
      omega

theorem top_lt : top < 10 ^ 20 := by decide

theorem rdZ_back (v : Nat) (hv : v ≤ top) (a : List UInt8) : rdZ (digF 20 v ++ 59 :: a) = some (v, a) := by
  have ht := top_lt
  have h1 : scan v (59 :: a) = some (v, 59 :: a) := by rw [scan, if_neg (by decide)]
  have hl : 1 ≤ (digF 20 v).length := digF_pos 19 v
  unfold rdZ
  rw [scan_digF 20 v hv (by omega) (by omega), h1]
  simp only [Option.bind_some, fin]
  rw [if_neg]
  simp only [List.length_append, List.length_cons]
  rintro (h | h | ⟨h, h2⟩)
  · omega
  · exact h rfl
  · by_cases hz : v = 0
    · subst hz
      have : digF 20 0 = [48] := by decide
      rw [this] at h2
      simp at h2
    · obtain ⟨c, r, e, h3, h4⟩ := digF_head 20 v (by omega) (by omega)
      rw [e] at h
      simp at h
      subst h
      exact absurd h3 (by decide)

theorem digF_head_ne (v : Nat) (hv : v ≤ top) (a : List UInt8) : (digF 20 v ++ a).head? ≠ some 45 := by
  have ht := top_lt
  by_cases hz : v = 0
  · subst hz
    have : digF 20 0 = [48] := by decide
    rw [this]
    simp
  · obtain ⟨c, r, e, h3, h4⟩ := digF_head 20 v (by omega) (by omega)
    rw [e]
    intro h
    simp at h
    subst h
    exact absurd h3 (by decide)

/-- the ints -/
def isInt (n : Int) : Prop := -9223372036854775808 ≤ n ∧ n ≤ 9223372036854775807

theorem rdI_back (n : Int) (hn : isInt n) (a : List UInt8) : rdI (encI n ++ a) = some (n, a) := by
  obtain ⟨h1, h2⟩ := hn
  unfold rdI encI
  by_cases h : n < 0
  · have e : ([45] ++ (digF 20 n.natAbs ++ [59])) ++ a = 45 :: (digF 20 n.natAbs ++ 59 :: a) := by simp
    rw [if_pos h, e, if_pos (by simp), List.tail_cons, rdZ_back _ (by unfold top; omega)]
    simp only [Option.bind_some]
    rw [if_neg (by omega)]
    congr 2
    omega
  · have e : ([] ++ (digF 20 n.natAbs ++ [59])) ++ a = digF 20 n.natAbs ++ 59 :: a := by simp
    rw [if_neg h, e, if_neg (digF_head_ne _ (by unfold top; omega) _), rdZ_back _ (by unfold top; omega)]
    simp only [Option.bind_some]
    rw [if_neg (by unfold top; omega)]
    congr 2
    omega

/-! what is read was written so -/

def val (acc : Nat) (ds : List UInt8) : Nat := ds.foldl (fun a c => 10 * a + (c.toNat - 48)) acc

theorem scan_only (s : List UInt8) : ∀ (acc v : Nat) (rest : List UInt8), acc ≤ top → scan acc s = some (v, rest) →
    ∃ ds, s = ds ++ rest ∧ (∀ c ∈ ds, isDig c = true) ∧ v = val acc ds ∧ v ≤ top := by
  induction s with
  | nil => intro acc v rest ha h; simp [scan] at h; exact ⟨[], by simp [h.2], by simp, by simp [val, h.1], by omega⟩
  | cons c r ih =>
    intro acc v rest ha h
    rw [scan] at h
    by_cases hc : isDig c = true
    · rw [if_pos hc] at h
      by_cases hb : top < 10 * acc + (c.toNat - 48)
      · rw [if_pos hb] at h; cases h
      · rw [if_neg hb] at h
        obtain ⟨ds, e, hd, hv, ht⟩ := ih _ v rest (by omega) h
        refine ⟨c :: ds, by simp [e], ?_, ?_, ht⟩
        · intro x hx
          rcases List.mem_cons.1 hx with rfl | hx
          · exact hc
          · exact hd x hx
        · rw [hv]; rfl
    · rw [if_neg hc] at h
      simp at h
      exact ⟨[], by simp [h.2], by simp, by simp [val, h.1], by omega⟩

theorem val_snoc (acc : Nat) (ds : List UInt8) (c : UInt8) : val acc (ds ++ [c]) = 10 * val acc ds + (c.toNat - 48) := by
  simp [val]

theorem snoc_of {α : Type} (l : List α) (h : l ≠ []) : ∃ i x, l = i ++ [x] := ⟨l.dropLast, l.getLast h, (List.dropLast_concat_getLast h).symm⟩

theorem isDig_iff (c : UInt8) : isDig c = true ↔ 48 ≤ c.toNat ∧ c.toNat ≤ 57 := by simp [isDig]

theorem ofNat_of (c : UInt8) (d : Nat) (h : c.toNat = 48 + d) : UInt8.ofNat (48 + d) = c := by
  rw [← h]; simp

/-- digits without a zero in front are those of their value -/
theorem canon (f : Nat) : ∀ ds : List UInt8, ds ≠ [] → ds.length ≤ f → (∀ c ∈ ds, isDig c = true) → (ds.head? = some 48 → ds.length ≤ 1) → digF f (val 0 ds) = ds ∧ (ds.head? ≠ some 48 → 10 ^ (ds.length - 1) ≤ val 0 ds) := by
  induction f with
  | zero => intro ds h hl; cases ds <;> simp_all
  | succ f ih =>
    intro ds hne hl hd hz
    obtain ⟨i, x, rfl⟩ := snoc_of ds hne
    have hx := (isDig_iff x).1 (hd x (by simp))
    rw [val_snoc]
    by_cases hi : i = []
    · subst hi
      have e0 : val 0 [] = 0 := rfl
      rw [e0]
      refine ⟨?_, ?_⟩
      · rw [digF_last _ _ (by omega)]
        simp only [List.nil_append, Nat.mul_zero, Nat.zero_add]
        congr 1
        exact ofNat_of x _ (by omega)
      · intro h
        simp at h
        have : x.toNat ≠ 48 := fun e => h (UInt8.toNat_inj.1 (by simpa using e))
        simp
        omega
    · have hli : (i ++ [x]).length = i.length + 1 := by simp
      have hl1 : 1 ≤ i.length := by cases i with
        | nil => exact absurd rfl hi
        | cons a b => simp
      have hhead : (i ++ [x]).head? = i.head? := by
        cases i with
        | nil => exact absurd rfl hi
        | cons a b => rfl
      have hz' : i.head? ≠ some 48 := by
        intro h
        have := hz (by rw [hhead]; exact h)
        omega
      obtain ⟨h1, h2⟩ := ih i hi (by omega) (fun c hc => hd c (by simp [hc])) (fun h => absurd h hz')
      have h3 := h2 hz'
      have h4 : 1 ≤ 10 ^ (i.length - 1) := Nat.pos_of_ne_zero (by simp)
      refine ⟨?_, ?_⟩
      · rw [digF_step _ _ (by omega), show (10 * val 0 i + (x.toNat - 48)) / 10 = val 0 i from by omega, h1]
        congr 2
        exact ofNat_of x _ (by omega)
      · intro _
        have e : (i ++ [x]).length - 1 = (i.length - 1) + 1 := by omega
        rw [e, Nat.pow_succ]
        omega

theorem rdZ_only (s : List UInt8) (v : Nat) (r : List UInt8) (h : rdZ s = some (v, r)) : s = digF 20 v ++ 59 :: r ∧ v ≤ top := by
  unfold rdZ at h
  cases hs : scan 0 s with
  | none => rw [hs] at h; cases h
  | some p =>
    obtain ⟨v', rest⟩ := p
    rw [hs] at h
    simp only [Option.bind_some] at h
    obtain ⟨ds, e, hd, hv, ht⟩ := scan_only s 0 v' rest (by simp [top]) hs
    cases rest with
    | nil => simp [fin] at h
    | cons c rr =>
      simp only [fin] at h
      by_cases hc : (c :: rr).length = s.length ∨ c ≠ 59 ∨ (s.head? = some 48 ∧ 1 < s.length - (c :: rr).length)
      · rw [if_pos hc] at h; cases h
      · rw [if_neg hc] at h
        simp only [not_or, Decidable.not_not] at hc
        obtain ⟨h1, h2, h3⟩ := hc
        subst h2
        simp at h
        obtain ⟨rfl, rfl⟩ := h
        have hlen : s.length = ds.length + (rr.length + 1) := by rw [e]; simp
        have hne : ds ≠ [] := by
          intro h0
          subst h0
          apply h1
          rw [e]; simp
        have hpos : 1 ≤ ds.length := by
          cases ds with
          | nil => exact absurd rfl hne
          | cons a b => simp
        have hh : s.head? = ds.head? := by
          rw [e]
          cases ds with
          | nil => exact absurd rfl hne
          | cons a b => rfl
        have hz : ds.head? = some 48 → ds.length ≤ 1 := by
          intro h0
          have h4 : ¬ 1 < s.length - (59 :: rr).length := fun h5 => h3 ⟨by rw [hh]; exact h0, h5⟩
          simp only [List.length_cons] at h4
          omega
        have hl20 : ds.length ≤ 20 := by
          by_cases h0 : ds.head? = some 48
          · have := hz h0; omega
          · have h5 := (canon ds.length ds hne (Nat.le_refl _) hd hz).2 h0
            by_cases h6 : ds.length ≤ 20
            · exact h6
            · exfalso
              have h7 : 10 ^ 20 ≤ 10 ^ (ds.length - 1) := Nat.pow_le_pow_right (by omega) (by omega)
              have h8 := top_lt
              omega
        refine ⟨?_, ht⟩
        rw [hv, (canon 20 ds hne hl20 hd hz).1]
        exact e

theorem rdI_only (s : List UInt8) (n : Int) (r : List UInt8) (h : rdI s = some (n, r)) : s = encI n ++ r ∧ isInt n := by
  unfold rdI at h
  by_cases hm : s.head? = some 45
  · rw [if_pos hm] at h
    cases hz : rdZ s.tail with
    | none => rw [hz] at h; cases h
    | some p =>
      obtain ⟨v, x⟩ := p
      rw [hz] at h
      simp only [Option.bind_some] at h
      obtain ⟨e, ht⟩ := rdZ_only _ _ _ hz
      by_cases h0 : v = 0
      · rw [if_pos h0] at h; cases h
      · rw [if_neg h0] at h
        simp at h
        obtain ⟨rfl, rfl⟩ := h
        have es : s = 45 :: s.tail := by
          cases s with
          | nil => cases hm
          | cons a b => simp at hm; simp [hm]
        refine ⟨?_, ?_⟩
        · unfold encI
          rw [if_pos (by omega), es, e, show (-(v : Int)).natAbs = v from by omega]
          simp
        · unfold isInt; unfold top at ht; omega
  · rw [if_neg hm] at h
    cases hz : rdZ s with
    | none => rw [hz] at h; cases h
    | some p =>
      obtain ⟨v, x⟩ := p
      rw [hz] at h
      simp only [Option.bind_some] at h
      obtain ⟨e, ht⟩ := rdZ_only _ _ _ hz
      by_cases h0 : v = top
      · rw [if_pos h0] at h; cases h
      · rw [if_neg h0] at h
        simp at h
        obtain ⟨rfl, rfl⟩ := h
        refine ⟨?_, ?_⟩
        · unfold encI
          rw [if_neg (by omega), e, show ((v : Int)).natAbs = v from by omega]
          simp
        · unfold isInt; unfold top at ht h0; omega

/-! strings and lists -/

theorem rdS_back (s : List UInt8) (hs : s.length < top) (a : List UInt8) : rdS (encS s ++ a) = some (s, a) := by
  unfold rdS encS
  rw [List.append_assoc, rdI_back _ (by unfold isInt; unfold top at hs; omega)]
  simp only [Option.bind_some]
  rw [if_neg (by simp; omega)]
  simp

theorem rdS_only (t s r : List UInt8) (h : rdS t = some (s, r)) : t = encS s ++ r ∧ s.length < top := by
  unfold rdS at h
  cases hz : rdI t with
  | none => rw [hz] at h; cases h
  | some p =>
    obtain ⟨n, x⟩ := p
    rw [hz] at h
    simp only [Option.bind_some] at h
    obtain ⟨e, hi⟩ := rdI_only _ _ _ hz
    by_cases hc : n < 0 ∨ (x.length : Int) < n
    · rw [if_pos hc] at h; cases h
    · rw [if_neg hc] at h
      simp at h
      obtain ⟨rfl, rfl⟩ := h
      unfold isInt at hi
      have hl : (x.take n.toNat).length = n.toNat := by simp; omega
      refine ⟨?_, by rw [hl]; unfold top; omega⟩
      unfold encS
      rw [hl, show ((n.toNat : Nat) : Int) = n from by omega, List.append_assoc, List.take_append_drop]
      exact e

section
variable {α : Type} {rd : List UInt8 → Option (α × List UInt8)} {enc : α → List UInt8} {ok : α → Prop}

theorem rdN_back (hb : ∀ x, ok x → ∀ a, rd (enc x ++ a) = some (x, a)) (l : List α) (hl : ∀ x ∈ l, ok x) (a : List UInt8) :
    rdN rd l.length ((l.map enc).flatten ++ a) = some (l, a) := by
  induction l with
  | nil => simp [rdN]
  | cons x l ih =>
    simp only [List.length_cons, rdN, List.map_cons, List.flatten_cons, List.append_assoc]
    rw [hb x (hl x (by simp))]
    simp only [Option.bind_some]
    rw [ih (fun y hy => hl y (by simp [hy]))]
    rfl

theorem rdL_back (hb : ∀ x, ok x → ∀ a, rd (enc x ++ a) = some (x, a)) (l : List α) (hl : ∀ x ∈ l, ok x) (hn : l.length < top) (a : List UInt8) :
    rdL rd (encL enc l ++ a) = some (l, a) := by
  unfold rdL encL
  rw [List.append_assoc, rdI_back _ (by unfold isInt; unfold top at hn; omega)]
  simp only [Option.bind_some]
  rw [if_neg (by omega), Int.toNat_natCast]
  exact rdN_back hb l hl a

theorem rdN_only (ho : ∀ t x r, rd t = some (x, r) → t = enc x ++ r ∧ ok x) (k : Nat) : ∀ (t : List UInt8) (l : List α) (r : List UInt8), rdN rd k t = some (l, r) → t = (l.map enc).flatten ++ r ∧ l.length = k ∧ ∀ x ∈ l, ok x := by
  induction k with
  | zero => intro t l r h; simp [rdN] at h; obtain ⟨rfl, rfl⟩ := h; simp
  | succ k ih =>
    intro t l r h
    simp only [rdN] at h
    cases h1 : rd t with
    | none => rw [h1] at h; cases h
    | some p =>
      rw [h1] at h
      simp only [Option.bind_some] at h
      cases h2 : rdN rd k p.2 with
      | none => rw [h2] at h; cases h
      | some q =>
        rw [h2] at h
        simp at h
        obtain ⟨rfl, rfl⟩ := h
        obtain ⟨e1, o1⟩ := ho t p.1 p.2 h1
        obtain ⟨e2, l2, o2⟩ := ih p.2 q.1 q.2 h2
        refine ⟨?_, by simp [l2], ?_⟩
        · simp only [List.map_cons, List.flatten_cons, List.append_assoc]
          rw [← e2]
          exact e1
        · intro x hx
          rcases List.mem_cons.1 hx with rfl | hx
          · exact o1
          · exact o2 x hx

theorem rdL_only (ho : ∀ t x r, rd t = some (x, r) → t = enc x ++ r ∧ ok x) (t : List UInt8) (l : List α) (r : List UInt8) (h : rdL rd t = some (l, r)) : t = encL enc l ++ r ∧ l.length < top ∧ ∀ x ∈ l, ok x := by
  unfold rdL at h
  cases hz : rdI t with
  | none => rw [hz] at h; cases h
  | some p =>
    obtain ⟨n, x⟩ := p
    rw [hz] at h
    simp only [Option.bind_some] at h
    obtain ⟨e, hi⟩ := rdI_only _ _ _ hz
    by_cases hc : n < 0
    · rw [if_pos hc] at h; cases h
    · rw [if_neg hc] at h
      obtain ⟨e2, hl, ho2⟩ := rdN_only ho _ _ _ _ h
      unfold isInt at hi
      refine ⟨?_, by unfold top; omega, ho2⟩
      unfold encL
      rw [hl, show ((n.toNat : Nat) : Int) = n from by omega, List.append_assoc, ← e2]
      exact e

/-- what is cut off is refused -/
theorem cut (hb : ∀ x, ok x → ∀ a, rd (enc x ++ a) = some (x, a)) (ho : ∀ t x r, rd t = some (x, r) → t = enc x ++ r ∧ ok x) (x : α) (hx : ok x) (k : Nat) (hk : k < (enc x).length) :
    rd ((enc x).take k) = none := by
  cases h : rd ((enc x).take k) with
  | none => rfl
  | some p =>
    exfalso
    obtain ⟨e, hy⟩ := ho _ p.1 p.2 h
    have h1 := hb p.1 hy (p.2 ++ (enc x).drop k)
    rw [← List.append_assoc, ← e, List.take_append_drop] at h1
    have h2 := hb x hx []
    rw [List.append_nil, h1] at h2
    simp at h2
    omega
end

/-- lists that differ have encodings that differ -/
theorem encI_inj {a b : Int} (ha : isInt a) (hb : isInt b) (h : encI a = encI b) : a = b := by
  have h1 := rdI_back a ha []
  rw [h, rdI_back b hb []] at h1
  simpa using h1.symm

theorem encI_len (n : Int) : 2 ≤ (encI n).length ∧ (encI n).length ≤ 22 := by
  have h1 : 1 ≤ (digF 20 n.natAbs).length := digF_pos 19 n.natAbs
  have h2 := digF_le 20 n.natAbs
  unfold encI
  split <;> simp <;> omega

end Go.Proofs.YtemldlhhlneleaaDoor.Wi.Wm
