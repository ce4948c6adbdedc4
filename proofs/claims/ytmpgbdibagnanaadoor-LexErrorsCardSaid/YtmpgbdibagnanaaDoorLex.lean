/-
  The plain mathematics of layer 2: tokens of a list of bytes, as functions on lists; print and scan again; places; joins; errors; quotes. It imports nothing of the program.
-/
import Derived.Below
namespace Go.Proofs.YtmpgbdibagnanaaDoor.Lx

def eRange : Nat := 3
def eFull : Nat := 6
def eToken : Nat := 20
def eQuote : Nat := 21

/-- a token: its kind (0 name, 1 number, 2 string, 3 sign), its text, its number, its place -/
structure Tok where
  kind : Nat
  text : List UInt8
  n : Nat
  pos : Nat

def isBlank (c : UInt8) : Bool := c == 9 || c == 10 || c == 32
def isLetter (c : UInt8) : Bool := (decide (97 ≤ c.toNat) && decide (c.toNat ≤ 122)) || (decide (65 ≤ c.toNat) && decide (c.toNat ≤ 90))
def isDigit (c : UInt8) : Bool := decide (48 ≤ c.toNat) && decide (c.toNat ≤ 57)
def isWord (c : UInt8) : Bool := isLetter c || isDigit c || c == 95
def isPlain (c : UInt8) : Bool := decide (32 ≤ c.toNat) && decide (c.toNat ≤ 126)
def signs : List UInt8 := [40, 41, 44, 59, 58, 61, 60, 43, 45, 42, 46, 123, 125]
def isSign (c : UInt8) : Bool := signs.contains c

/-- the value of digits -/
def val (ds : List UInt8) : Nat := ds.foldl (fun a c => 10 * a + (c.toNat - 48)) 0

def okName (t : List UInt8) : Bool := match t with
  | [] => false
  | c :: r => isLetter c && r.all isWord && decide (t.length ≤ 20)
def okNumber (t : List UInt8) : Bool := decide (t ≠ []) && t.all isDigit && (decide (t.length ≤ 1) || t.head? != some 48) && decide (val t ≤ 1099511627776)
def okValue (t : List UInt8) : Bool := t.all isPlain && decide (t.length ≤ 400)

/-- a value with a backslash before each quote and backslash -/
def esc (t : List UInt8) : List UInt8 := (t.map fun c => if c == 34 || c == 92 then [92, c] else [c]).flatten
def quoted (t : List UInt8) : List UInt8 := 34 :: (esc t ++ [34])

/-- behind an opening quote (e: behind a backslash): the value, and what follows the closing one -/
def unqE : Bool → List UInt8 → Option (List UInt8 × List UInt8)
  | _, [] => none
  | true, c :: r => if c = 34 ∨ c = 92 then (unqE false r).map fun p => (c :: p.1, p.2) else none
  | false, c :: r => if c = 34 then some ([], r) else if c = 92 then unqE true r else (unqE false r).map fun p => (c :: p.1, p.2)
def unq (l : List UInt8) : Option (List UInt8 × List UInt8) := unqE false l

/-- the token that begins with c, and what follows it: its kind, text and number; or the error -/
def tok (c : UInt8) (r : List UInt8) : Except Nat ((Nat × List UInt8 × Nat) × List UInt8) :=
  if isLetter c then
    (if okName (c :: r.takeWhile isWord) then .ok ((0, c :: r.takeWhile isWord, 0), r.dropWhile isWord) else .error eRange)
  else if isDigit c then
    (if okNumber (c :: r.takeWhile isDigit) then .ok ((1, c :: r.takeWhile isDigit, val (c :: r.takeWhile isDigit)), r.dropWhile isDigit) else .error eRange)
  else if c = 34 then
    (match unq r with
    | none => .error eQuote
    | some p => if okValue p.1 then .ok ((2, p.1, 0), p.2) else .error eQuote)
  else if isSign c then .ok ((3, [c], 0), r)
  else .error eToken

theorem length_dropWhile_le {α : Type} (p : α → Bool) (l : List α) : (l.dropWhile p).length ≤ l.length := by
  induction l with
  | nil => simp
  | cons a l ih => rw [List.dropWhile_cons]; split <;> simp <;> omega

theorem unq_nil : unq [] = none := rfl
theorem unq_quote (r : List UInt8) : unq (34 :: r) = some ([], r) := by unfold unq; rw [unqE, if_pos rfl]
theorem unq_back (r : List UInt8) : unq (92 :: r) = unqE true r := by unfold unq; rw [unqE, if_neg (by decide), if_pos rfl]
theorem unq_esc {d : UInt8} {r : List UInt8} (h : d = 34 ∨ d = 92) : unq (92 :: d :: r) = (unq r).map fun p => (d :: p.1, p.2) := by rw [unq_back, unqE, if_pos h]; rfl
theorem unq_bad {d : UInt8} {r : List UInt8} (h : ¬ (d = 34 ∨ d = 92)) : unq (92 :: d :: r) = none := by rw [unq_back, unqE, if_neg h]
theorem unq_last : unq [92] = none := by rw [unq_back]; rfl
theorem unq_plain {c : UInt8} {r : List UInt8} (h1 : c ≠ 34) (h2 : c ≠ 92) : unq (c :: r) = (unq r).map fun p => (c :: p.1, p.2) := by
  unfold unq; rw [unqE, if_neg h1, if_neg h2]

/-- the five ways of a quoted string -/
theorem unq_ways (l : List UInt8) : (l = []) ∨ (∃ r, l = 34 :: r) ∨ (l = [92]) ∨ (∃ d r, l = 92 :: d :: r ∧ (d = 34 ∨ d = 92)) ∨ (∃ d r, l = 92 :: d :: r ∧ ¬ (d = 34 ∨ d = 92)) ∨ (∃ c r, l = c :: r ∧ c ≠ 34 ∧ c ≠ 92) := by
  cases l with
  | nil => exact .inl rfl
  | cons c r =>
    right
    by_cases h1 : c = 34
    · exact .inl ⟨r, by rw [h1]⟩
    · right
      by_cases h2 : c = 92
      · cases r with
        | nil => exact .inl (by rw [h2])
        | cons d r' =>
          right
          by_cases h3 : d = 34 ∨ d = 92
          · exact .inl ⟨d, r', by rw [h2], h3⟩
          · exact .inr (.inl ⟨d, r', by rw [h2], h3⟩)
      · exact .inr (.inr (.inr ⟨c, r, rfl, h1, h2⟩))

theorem map_some {α β : Type} {o : Option α} {f : α → β} {y : β} (h : o.map f = some y) : ∃ x, o = some x ∧ y = f x := by
  cases o with
  | none => cases h
  | some x => exact ⟨x, rfl, (by simpa using h.symm)⟩

theorem unq_len (f : Nat) : ∀ (l : List UInt8) (p : List UInt8 × List UInt8), l.length ≤ f → unq l = some p → p.2.length < l.length := by
  induction f with
  | zero =>
    intro l p hl h
    cases l with
    | nil => rw [unq_nil] at h; cases h
    | cons c r => simp at hl
  | succ f ih =>
    intro l p hl h
    rcases unq_ways l with rfl | ⟨r, rfl⟩ | rfl | ⟨d, r, rfl, hd⟩ | ⟨d, r, rfl, hd⟩ | ⟨c, r, rfl, h1, h2⟩
    · rw [unq_nil] at h; cases h
    · rw [unq_quote] at h; simp at h; subst h; simp
    · rw [unq_last] at h; cases h
    · rw [unq_esc hd] at h
      obtain ⟨q, hq, rfl⟩ := map_some h
      have := ih r q (by simp at hl; omega) hq
      simp; omega
    · rw [unq_bad hd] at h; cases h
    · rw [unq_plain h1 h2] at h
      obtain ⟨q, hq, rfl⟩ := map_some h
      have := ih r q (by simp at hl; omega) hq
      simp; omega

theorem tok_len {c : UInt8} {r : List UInt8} {x : Nat × List UInt8 × Nat} {rest : List UInt8} (h : tok c r = .ok (x, rest)) : rest.length ≤ r.length := by
  unfold tok at h
  split at h
  · split at h
    · cases h; exact length_dropWhile_le _ _
    · cases h
  · split at h
    · split at h
      · cases h; exact length_dropWhile_le _ _
      · cases h
    · split at h
      · split at h
        · cases h
        · rename_i p hp
          split at h
          · cases h; exact Nat.le_of_lt (unq_len r.length r p (Nat.le_refl _) hp)
          · cases h
      · split at h
        · cases h; exact Nat.le_refl _
        · cases h

/-- the tokens, or the first error with its place; cm: in a comment -/
def scanF : Nat → Nat → Bool → List UInt8 → Except (Nat × Nat) (List Tok)
  | 0, _, _, _ => .ok []
  | _ + 1, _, _, [] => .ok []
  | f + 1, pos, cm, c :: r =>
    if (cm && c != 10) || isBlank c then scanF f (pos + 1) (cm && c != 10) r
    else if c = 35 then scanF f (pos + 1) true r
    else match tok c r with
      | .error e => .error (pos, e)
      | .ok (x, rest) => match scanF f (pos + (r.length + 1 - rest.length)) false rest with
        | .error e => .error e
        | .ok l => .ok (⟨x.1, x.2.1, x.2.2, pos⟩ :: l)

theorem scanF_more (f : Nat) : ∀ (g pos : Nat) (cm : Bool) (s : List UInt8), s.length < f → f ≤ g → scanF g pos cm s = scanF f pos cm s := by
  induction f with
  | zero => intro g pos cm s h; omega
  | succ f ih =>
    intro g pos cm s h hg
    obtain ⟨g, rfl⟩ : ∃ g', g = g' + 1 := ⟨g - 1, by omega⟩
    cases s with
    | nil => rfl
    | cons c r =>
      have hr : r.length < f := by simp at h; omega
      rw [scanF, scanF]
      by_cases h1 : ((cm && c != 10) || isBlank c) = true
      · rw [if_pos h1, if_pos h1, ih g _ _ r hr (by omega)]
      · rw [if_neg h1, if_neg h1]
        by_cases h2 : c = 35
        · rw [if_pos h2, if_pos h2, ih g _ _ r hr (by omega)]
        · rw [if_neg h2, if_neg h2]
          cases h3 : tok c r with
          | error e => rfl
          | ok p =>
            obtain ⟨x, rest⟩ := p
            have := tok_len h3
            simp only
            rw [ih g _ _ rest (by omega) (by omega)]

/-- the tokens of s from a place on -/
def scan (pos : Nat) (cm : Bool) (s : List UInt8) : Except (Nat × Nat) (List Tok) := scanF (s.length + 1) pos cm s

theorem scan_nil (pos : Nat) (cm : Bool) : scan pos cm [] = .ok [] := rfl
theorem scan_idle {pos : Nat} {cm : Bool} {c : UInt8} {r : List UInt8} (h : ((cm && c != 10) || isBlank c) = true) : scan pos cm (c :: r) = scan (pos + 1) (cm && c != 10) r := by
  unfold scan
  rw [List.length_cons, scanF, if_pos h]
theorem scan_comment {pos : Nat} {cm : Bool} {c : UInt8} {r : List UInt8} (h : ((cm && c != 10) || isBlank c) = false) (hc : c = 35) : scan pos cm (c :: r) = scan (pos + 1) true r := by
  unfold scan
  rw [List.length_cons, scanF, if_neg (by rw [h]; simp), if_pos hc]
theorem scan_tok {pos : Nat} {cm : Bool} {c : UInt8} {r : List UInt8} (h : ((cm && c != 10) || isBlank c) = false) (hc : c ≠ 35) : scan pos cm (c :: r) = (match tok c r with
      | .error e => .error (pos, e)
      | .ok (x, rest) => match scan (pos + (r.length + 1 - rest.length)) false rest with
        | .error e => .error e
        | .ok l => .ok (⟨x.1, x.2.1, x.2.2, pos⟩ :: l)) := by
  unfold scan
  rw [List.length_cons, scanF, if_neg (by rw [h]; simp), if_neg hc]
  cases h3 : tok c r with
  | error e => rfl
  | ok p =>
    obtain ⟨x, rest⟩ := p
    have := tok_len h3
    simp only
    rw [scanF_more (rest.length + 1) (r.length + 1) _ _ rest (by omega) (by omega)]

/-- scan from the beginning, with the bound on the text's length -/
def scanAll (s : List UInt8) : Except (Nat × Nat) (List Tok) := if 20000 < s.length then .error (0, eFull) else scan 0 false s

/-- how a token is shown -/
def shown (t : Tok) : List UInt8 := if t.kind = 2 then quoted t.text else t.text
def print : List Tok → List UInt8
  | [] => []
  | [t] => shown t
  | t :: u :: l => shown t ++ 32 :: print (u :: l)

end Go.Proofs.YtmpgbdibagnanaaDoor.Lx
