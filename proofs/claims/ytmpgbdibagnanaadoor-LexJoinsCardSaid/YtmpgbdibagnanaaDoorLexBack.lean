/-
  Plain mathematics of layer 2, on: the tokens of a text are right; what is printed has the same tokens.
-/
import Derived.Test.YtmpgbdibagnanaaDoorLex
namespace Go.Proofs.YtmpgbdibagnanaaDoor.Lx

/-- a right token -/
def ok1 (t : Tok) : Prop := (t.kind = 0 ∧ okName t.text = true ∧ t.n = 0) ∨ (t.kind = 1 ∧ okNumber t.text = true ∧ t.n = val t.text) ∨ (t.kind = 2 ∧ okValue t.text = true ∧ t.n = 0) ∨
  (t.kind = 3 ∧ (∃ c, t.text = [c] ∧ isSign c = true ∧ isLetter c = false ∧ isDigit c = false ∧ c ≠ 34) ∧ t.n = 0)

theorem esc_cons (c : UInt8) (r : List UInt8) : esc (c :: r) = (if c == 34 || c == 92 then [92, c] else [c]) ++ esc r := by simp [esc]

theorem unq_esc_all (v : List UInt8) (rest : List UInt8) : unq (esc v ++ 34 :: rest) = some (v, rest) := by
  induction v with
  | nil => exact unq_quote rest
  | cons c v ih =>
    rw [esc_cons]
    by_cases h : c = 34 ∨ c = 92
    · have hb : (c == 34 || c == 92) = true := by rcases h with rfl | rfl <;> decide
      rw [hb]
      show unq (92 :: c :: (esc v ++ 34 :: rest)) = _
      rw [unq_esc h, ih]
      rfl
    · have hb : (c == 34 || c == 92) = false := by
        simp only [not_or] at h
        simp [h.1, h.2]
      rw [hb]
      simp only [not_or] at h
      show unq (c :: (esc v ++ 34 :: rest)) = _
      rw [unq_plain h.1 h.2, ih]
      rfl

theorem unq_only (f : Nat) : ∀ (l v rest : List UInt8), l.length ≤ f → unq l = some (v, rest) → l = esc v ++ 34 :: rest := by
  induction f with
  | zero =>
    intro l v rest hl h
    cases l with
    | nil => rw [unq_nil] at h; cases h
    | cons c r => simp at hl
  | succ f ih =>
    intro l v rest hl h
    rcases unq_ways l with rfl | ⟨r, rfl⟩ | rfl | ⟨d, r, rfl, hd⟩ | ⟨d, r, rfl, hd⟩ | ⟨c, r, rfl, h1, h2⟩
    · rw [unq_nil] at h; cases h
    · rw [unq_quote] at h; simp at h; obtain ⟨rfl, rfl⟩ := h; rfl
    · rw [unq_last] at h; cases h
    · rw [unq_esc hd] at h
      obtain ⟨q, hq, he⟩ := map_some h
      simp only [Prod.mk.injEq] at he
      obtain ⟨rfl, rfl⟩ := he
      rw [ih r q.1 q.2 (by simp at hl; omega) hq, esc_cons]
      have hb : (d == 34 || d == 92) = true := by rcases hd with rfl | rfl <;> decide
      rw [hb]
      rfl
    · rw [unq_bad hd] at h; cases h
    · rw [unq_plain h1 h2] at h
      obtain ⟨q, hq, he⟩ := map_some h
      simp only [Prod.mk.injEq] at he
      obtain ⟨rfl, rfl⟩ := he
      rw [ih r q.1 q.2 (by simp at hl; omega) hq, esc_cons]
      have hb : (c == 34 || c == 92) = false := by simp [h1, h2]
      rw [hb]
      rfl

/-- what a token is, and that it stands at the text's beginning -/
theorem tok_ok {c : UInt8} {r : List UInt8} {x : Nat × List UInt8 × Nat} {rest : List UInt8} (h : tok c r = .ok (x, rest)) (pos : Nat) : ok1 ⟨x.1, x.2.1, x.2.2, pos⟩ ∧ c :: r = shown ⟨x.1, x.2.1, x.2.2, pos⟩ ++ rest := by
  unfold tok at h
  by_cases h1 : isLetter c = true
  · rw [if_pos h1] at h
    by_cases h2 : okName (c :: r.takeWhile isWord) = true
    · rw [if_pos h2] at h
      cases h
      refine ⟨.inl ⟨rfl, h2, rfl⟩, ?_⟩
      show c :: r = (c :: r.takeWhile isWord) ++ r.dropWhile isWord
      rw [List.cons_append, List.takeWhile_append_dropWhile]
    · rw [if_neg h2] at h; cases h
  · rw [if_neg h1] at h
    by_cases h3 : isDigit c = true
    · rw [if_pos h3] at h
      by_cases h2 : okNumber (c :: r.takeWhile isDigit) = true
      · rw [if_pos h2] at h
        cases h
        refine ⟨.inr (.inl ⟨rfl, h2, rfl⟩), ?_⟩
        show c :: r = (c :: r.takeWhile isDigit) ++ r.dropWhile isDigit
        rw [List.cons_append, List.takeWhile_append_dropWhile]
      · rw [if_neg h2] at h; cases h
    · rw [if_neg h3] at h
      by_cases h4 : c = 34
      · rw [if_pos h4] at h
        cases h5 : unq r with
        | none => rw [h5] at h; cases h
        | some p =>
          rw [h5] at h
          simp only at h
          by_cases h6 : okValue p.1 = true
          · rw [if_pos h6] at h
            cases h
            refine ⟨.inr (.inr (.inl ⟨rfl, h6, rfl⟩)), ?_⟩
            show c :: r = quoted p.1 ++ p.2
            rw [h4, unq_only r.length r p.1 p.2 (Nat.le_refl _) h5, quoted]
            simp
          · rw [if_neg h6] at h; cases h
      · rw [if_neg h4] at h
        by_cases h5 : isSign c = true
        · rw [if_pos h5] at h
          cases h
          exact ⟨.inr (.inr (.inr ⟨rfl, ⟨c, rfl, h5, by simpa using h1, by simpa using h3, h4⟩, rfl⟩)), rfl⟩
        · rw [if_neg h5] at h; cases h

theorem scan_ok (f : Nat) : ∀ (s : List UInt8) (pos : Nat) (cm : Bool) (l : List Tok), s.length ≤ f → scan pos cm s = .ok l → ∀ t ∈ l, ok1 t := by
  induction f with
  | zero =>
    intro s pos cm l hl h
    cases s with
    | nil => rw [scan_nil] at h; cases h; simp
    | cons c r => simp at hl
  | succ f ih =>
    intro s pos cm l hl h
    cases s with
    | nil => rw [scan_nil] at h; cases h; simp
    | cons c r =>
      have hr : r.length ≤ f := by simp at hl; omega
      by_cases h1 : ((cm && c != 10) || isBlank c) = true
      · rw [scan_idle h1] at h; exact ih r _ _ l hr h
      · have h1' : ((cm && c != 10) || isBlank c) = false := by simpa using h1
        by_cases h2 : c = 35
        · rw [scan_comment h1' h2] at h; exact ih r _ _ l hr h
        · rw [scan_tok h1' h2] at h
          cases h3 : tok c r with
          | error e => rw [h3] at h; cases h
          | ok p =>
            obtain ⟨x, rest⟩ := p
            rw [h3] at h
            simp only at h
            cases h4 : scan (pos + (r.length + 1 - rest.length)) false rest with
            | error e => rw [h4] at h; cases h
            | ok l' =>
              rw [h4] at h
              cases h
              intro t ht
              rcases List.mem_cons.1 ht with rfl | ht
              · exact (tok_ok h3 pos).1
              · exact ih rest _ _ l' (by have := tok_len h3; omega) h4 t ht

/-- behind a token's text: the end, or a blank -/
def Sep (rest : List UInt8) : Prop := rest = [] ∨ ∃ r, rest = 32 :: r

theorem takeWhile_sep {p : UInt8 → Bool} {l rest : List UInt8} (hl : l.all p = true) (hp : p 32 = false) (hs : Sep rest) : (l ++ rest).takeWhile p = l ∧ (l ++ rest).dropWhile p = rest := by
  have h0 : rest.takeWhile p = [] ∧ rest.dropWhile p = rest := by
    rcases hs with rfl | ⟨r, rfl⟩
    · exact ⟨rfl, rfl⟩
    · rw [List.takeWhile_cons, List.dropWhile_cons, hp]; exact ⟨rfl, rfl⟩
  induction l with
  | nil => exact h0
  | cons a l ih =>
    simp only [List.all_cons, Bool.and_eq_true] at hl
    rw [List.cons_append, List.takeWhile_cons, List.dropWhile_cons, hl.1]
    simp only [if_true]
    exact ⟨by rw [(ih hl.2).1], (ih hl.2).2⟩

theorem okName_parts {c : UInt8} {r : List UInt8} (h : okName (c :: r) = true) : isLetter c = true ∧ r.all isWord = true := by
  simp only [okName, Bool.and_eq_true] at h
  exact h.1
theorem okNumber_parts {c : UInt8} {r : List UInt8} (h : okNumber (c :: r) = true) : isDigit c = true ∧ r.all isDigit = true := by
  simp only [okNumber, Bool.and_eq_true, List.all_cons] at h
  exact h.1.1.2
theorem digit_not_letter {c : UInt8} (h : isDigit c = true) : isLetter c = false := by
  simp only [isDigit, Bool.and_eq_true, decide_eq_true_eq] at h
  simp only [isLetter, Bool.or_eq_false_iff, Bool.and_eq_false_iff, decide_eq_false_iff_not]
  omega

theorem tok_shown {t : Tok} (h : ok1 t) {rest : List UInt8} (hs : Sep rest) : ∃ c r, shown t = c :: r ∧ tok c (r ++ rest) = .ok ((t.kind, t.text, t.n), rest) := by
  obtain ⟨kind, text, n, pos⟩ := t
  rcases h with ⟨h1, h2, h3⟩ | ⟨h1, h2, h3⟩ | ⟨h1, h2, h3⟩ | ⟨h1, ⟨c, h2, h4, h5, h6, h7⟩, h3⟩
  · simp only at h1 h2 h3
    subst h1; subst h3
    cases text with
    | nil => simp [okName] at h2
    | cons c r =>
      obtain ⟨ha, hb⟩ := okName_parts h2
      obtain ⟨e1, e2⟩ := takeWhile_sep hb (by decide) hs
      refine ⟨c, r, rfl, ?_⟩
      unfold tok
      rw [if_pos ha, e1, e2, if_pos h2]
  · simp only at h1 h2 h3
    subst h1; subst h3
    cases text with
    | nil => simp [okNumber] at h2
    | cons c r =>
      obtain ⟨ha, hb⟩ := okNumber_parts h2
      obtain ⟨e1, e2⟩ := takeWhile_sep hb (by decide) hs
      refine ⟨c, r, rfl, ?_⟩
      unfold tok
      rw [if_neg (by rw [digit_not_letter ha]; simp), if_pos ha, e1, e2, if_pos h2]
  · simp only at h1 h2 h3
    subst h1; subst h3
    refine ⟨34, esc text ++ [34], rfl, ?_⟩
    unfold tok
    rw [if_neg (by decide), if_neg (by decide), if_pos rfl, List.append_assoc]
    show (match unq (esc text ++ 34 :: rest) with | none => _ | some p => _) = _
    rw [unq_esc_all]
    simp only
    rw [if_pos h2]
  · simp only at h1 h2 h3
    subst h1; subst h2; subst h3
    refine ⟨c, [], rfl, ?_⟩
    unfold tok
    rw [if_neg (by rw [h5]; simp), if_neg (by rw [h6]; simp), if_neg h7, if_pos h4]
    rfl

/-- a token begins with no blank, and with no comment -/
theorem shown_head {t : Tok} (h : ok1 t) {c : UInt8} {r : List UInt8} (hs : shown t = c :: r) : isBlank c = false ∧ c ≠ 35 := by
  have key : ∀ c : UInt8, isLetter c = true ∨ isDigit c = true ∨ c = 34 ∨ isSign c = true → isBlank c = false ∧ c ≠ 35 := by
    intro c hc
    refine ⟨?_, ?_⟩
    · cases hb : isBlank c with
      | false => rfl
      | true =>
        exfalso
        simp only [isBlank, Bool.or_eq_true, beq_iff_eq] at hb
        rcases hb with (rfl | rfl) | rfl <;> revert hc <;> decide
    · rintro rfl
      revert hc
      decide
  apply key
  obtain ⟨kind, text, n, pos⟩ := t
  rcases h with ⟨h1, h2, h3⟩ | ⟨h1, h2, h3⟩ | ⟨h1, h2, h3⟩ | ⟨h1, ⟨d, h2, h4, h5, h6, h7⟩, h3⟩
  · simp only at h1 h2
    subst h1
    have : text = c :: r := hs
    subst this
    exact .inl (okName_parts h2).1
  · simp only at h1 h2
    subst h1
    have : text = c :: r := hs
    subst this
    exact .inr (.inl (okNumber_parts h2).1)
  · simp only at h1
    subst h1
    have : quoted text = c :: r := hs
    rw [quoted] at this
    exact .inr (.inr (.inl (by simpa using (List.cons.inj this).1.symm)))
  · simp only at h1 h2
    subst h1; subst h2
    have : [d] = c :: r := hs
    obtain ⟨rfl, _⟩ := List.cons.inj this
    exact .inr (.inr (.inr h4))

theorem scan_shown {t : Tok} (h : ok1 t) {rest : List UInt8} (hs : Sep rest) (pos : Nat) : scan pos false (shown t ++ rest) = (match scan (pos + (shown t).length) false rest with
    | .error e => .error e
    | .ok l => .ok (⟨t.kind, t.text, t.n, pos⟩ :: l)) := by
  obtain ⟨c, r, e1, e2⟩ := tok_shown h hs
  obtain ⟨h1, h2⟩ := shown_head h e1
  rw [e1, List.cons_append, scan_tok (by simp [h1]) h2, e2]
  simp only
  have hl : pos + ((r ++ rest).length + 1 - rest.length) = pos + (c :: r).length := by simp; omega
  rw [hl]
  rfl

def strip (t : Tok) : Nat × List UInt8 × Nat := (t.kind, t.text, t.n)

theorem scan_blank (pos : Nat) (r : List UInt8) : scan pos false (32 :: r) = scan (pos + 1) false r := by
  rw [scan_idle (by decide)]
  rfl

/-- what is printed has the same tokens -/
theorem scan_print (l : List Tok) : (∀ t ∈ l, ok1 t) → ∀ pos, ∃ l', scan pos false (print l) = .ok l' ∧ l'.map strip = l.map strip := by
  induction l with
  | nil => intro _ pos; exact ⟨[], rfl, rfl⟩
  | cons t l ih =>
    intro h pos
    cases l with
    | nil =>
      refine ⟨[⟨t.kind, t.text, t.n, pos⟩], ?_, rfl⟩
      have e : print [t] = shown t ++ [] := by simp [print]
      rw [e, scan_shown (h t (by simp)) (.inl rfl), scan_nil]
    | cons u l =>
      obtain ⟨l', e1, e2⟩ := ih (fun x hx => h x (List.mem_cons_of_mem _ hx)) (pos + (shown t).length + 1)
      refine ⟨⟨t.kind, t.text, t.n, pos⟩ :: l', ?_, ?_⟩
      · have e : print (t :: u :: l) = shown t ++ 32 :: print (u :: l) := rfl
        rw [e, scan_shown (h t (by simp)) (.inr ⟨_, rfl⟩), scan_blank, e1]
      · rw [List.map_cons, List.map_cons (l := u :: l), e2]
        rfl

theorem shown_strip {t u : Tok} (h : strip t = strip u) : shown t = shown u := by
  simp only [strip, Prod.mk.injEq] at h
  unfold shown
  rw [h.1, h.2.1]

theorem print_strip (l : List Tok) : ∀ l' : List Tok, l'.map strip = l.map strip → print l' = print l := by
  induction l with
  | nil => intro l' h; cases l' with
    | nil => rfl
    | cons a b => simp at h
  | cons t l ih =>
    intro l' h
    cases l' with
    | nil => simp at h
    | cons a b =>
      simp only [List.map_cons, List.cons.injEq] at h
      have e := shown_strip h.1
      cases l with
      | nil =>
        cases b with
        | nil => exact e
        | cons x y => simp at h
      | cons u l =>
        cases b with
        | nil => simp at h
        | cons x y =>
          show shown a ++ 32 :: print (x :: y) = shown t ++ 32 :: print (u :: l)
          rw [e, ih (x :: y) h.2]

end Go.Proofs.YtmpgbdibagnanaaDoor.Lx
