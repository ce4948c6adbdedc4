/-
  Plain mathematics of layer 2, on: two texts with a line feed between them; the text as far as an error, and from it on; what is quoted.
-/
import Derived.Test.YtmpgbdibagnanaaDoorLexBack
namespace Go.Proofs.YtmpgbdibagnanaaDoor.Lx

/-! two texts -/

theorem takeWhile_join {p : UInt8 → Bool} (hp : p 10 = false) (l y : List UInt8) : (l ++ 10 :: y).takeWhile p = l.takeWhile p ∧ (l ++ 10 :: y).dropWhile p = l.dropWhile p ++ 10 :: y := by
  induction l with
  | nil =>
    rw [List.nil_append, List.takeWhile_cons, List.dropWhile_cons, hp]
    exact ⟨rfl, rfl⟩
  | cons a l ih =>
    rw [List.cons_append, List.takeWhile_cons, List.dropWhile_cons, List.takeWhile_cons, List.dropWhile_cons]
    by_cases h : p a = true
    · rw [if_pos h, if_pos h, if_pos h, if_pos h, ih.1, ih.2]; exact ⟨rfl, rfl⟩
    · rw [if_neg h, if_neg h, if_neg h, if_neg h]; exact ⟨rfl, rfl⟩

theorem unq_join (f : Nat) : ∀ (l y : List UInt8), l.length ≤ f → (∀ p, unq l = some p → unq (l ++ 10 :: y) = some (p.1, p.2 ++ 10 :: y)) ∧ (unq l = none → unq (l ++ 10 :: y) = none ∨ ∃ p, unq (l ++ 10 :: y) = some p ∧ okValue p.1 = false) := by
  have bad : ∀ v : List UInt8, (10 : UInt8) ∈ v → okValue v = false := by
    intro v hv
    simp only [okValue, Bool.and_eq_false_iff]
    left
    rw [List.all_eq_false]
    exact ⟨10, hv, by decide⟩
  have bad2 : ∀ (c : UInt8) (v : List UInt8), okValue v = false → okValue (c :: v) = false := by
    intro c v hv
    simp only [okValue, Bool.and_eq_false_iff, decide_eq_false_iff_not, List.all_cons, List.length_cons] at hv ⊢
    rcases hv with hv | hv
    · left; right; exact hv
    · right; omega
  induction f with
  | zero =>
    intro l y hl
    cases l with
    | nil =>
      refine ⟨fun p h => by (rw [unq_nil] at h; cases h), fun _ => ?_⟩
      rw [List.nil_append, unq_plain (by decide) (by decide)]
      cases h : unq y with
      | none => left; rfl
      | some p => right; exact ⟨_, rfl, bad _ (by simp)⟩
    | cons c r => simp at hl
  | succ f ih =>
    intro l y hl
    rcases unq_ways l with rfl | ⟨r, rfl⟩ | rfl | ⟨d, r, rfl, hd⟩ | ⟨d, r, rfl, hd⟩ | ⟨c, r, rfl, h1, h2⟩
    · refine ⟨fun p h => by (rw [unq_nil] at h; cases h), fun _ => ?_⟩
      rw [List.nil_append, unq_plain (by decide) (by decide)]
      cases h : unq y with
      | none => left; rfl
      | some p => right; exact ⟨_, rfl, bad _ (by simp)⟩
    · refine ⟨fun p h => ?_, fun h => by (rw [unq_quote] at h; cases h)⟩
      rw [unq_quote] at h
      cases h
      rw [List.cons_append, unq_quote]
    · refine ⟨fun p h => by (rw [unq_last] at h; cases h), fun _ => .inl ?_⟩
      show unq (92 :: 10 :: y) = none
      exact unq_bad (by decide)
    · obtain ⟨i1, i2⟩ := ih r y (by simp at hl; omega)
      rw [unq_esc hd, List.cons_append, List.cons_append, unq_esc hd]
      refine ⟨fun p h => ?_, fun h => ?_⟩
      · obtain ⟨q, hq, rfl⟩ := map_some h
        rw [i1 q hq]
        rfl
      · cases hr : unq r with
        | some q => rw [hr] at h; cases h
        | none =>
          rcases i2 hr with h3 | ⟨p, h3, h4⟩
          · left; rw [h3]; rfl
          · right; rw [h3]; exact ⟨_, rfl, bad2 _ _ h4⟩
    · refine ⟨fun p h => by (rw [unq_bad hd] at h; cases h), fun _ => .inl ?_⟩
      rw [List.cons_append, List.cons_append, unq_bad hd]
    · obtain ⟨i1, i2⟩ := ih r y (by simp at hl; omega)
      rw [unq_plain h1 h2, List.cons_append, unq_plain h1 h2]
      refine ⟨fun p h => ?_, fun h => ?_⟩
      · obtain ⟨q, hq, rfl⟩ := map_some h
        rw [i1 q hq]
        rfl
      · cases hr : unq r with
        | some q => rw [hr] at h; cases h
        | none =>
          rcases i2 hr with h3 | ⟨p, h3, h4⟩
          · left; rw [h3]; rfl
          · right; rw [h3]; exact ⟨_, rfl, bad2 _ _ h4⟩

theorem tok_join (c : UInt8) (r y : List UInt8) : tok c (r ++ 10 :: y) = (match tok c r with
    | .error e => .error e
    | .ok (x, rest) => .ok (x, rest ++ 10 :: y)) := by
  obtain ⟨w1, w2⟩ := takeWhile_join (p := isWord) (by decide) r y
  obtain ⟨d1, d2⟩ := takeWhile_join (p := isDigit) (by decide) r y
  obtain ⟨u1, u2⟩ := unq_join r.length r y (Nat.le_refl _)
  unfold tok
  rw [w1, w2, d1, d2]
  by_cases h1 : isLetter c = true
  · rw [if_pos h1, if_pos h1]
    split <;> rfl
  · rw [if_neg h1, if_neg h1]
    by_cases h3 : isDigit c = true
    · rw [if_pos h3, if_pos h3]
      split <;> rfl
    · rw [if_neg h3, if_neg h3]
      by_cases h4 : c = 34
      · rw [if_pos h4, if_pos h4]
        cases h5 : unq r with
        | none =>
          rcases u2 h5 with h6 | ⟨p, h6, h7⟩
          · rw [h6]
          · rw [h6]; simp only; rw [if_neg (by rw [h7]; simp)]
        | some p =>
          rw [u1 p h5]
          simp only
          split <;> rfl
      · rw [if_neg h4, if_neg h4]
        split <;> rfl

theorem scan_join (f : Nat) : ∀ (x y : List UInt8) (pos : Nat) (cm : Bool), x.length ≤ f → scan pos cm (x ++ 10 :: y) = (match scan pos cm x with
    | .error e => .error e
    | .ok a => match scan (pos + x.length + 1) false y with
      | .error e => .error e
      | .ok b => .ok (a ++ b)) := by
  have hnil : ∀ (y : List UInt8) (pos : Nat) (cm : Bool), scan pos cm ([] ++ 10 :: y) = (match scan pos cm [] with
      | .error e => .error e
      | .ok a => match scan (pos + ([] : List UInt8).length + 1) false y with
        | .error e => .error e
        | .ok b => .ok (a ++ b)) := by
    intro y pos cm
    rw [List.nil_append, scan_idle (by simp [isBlank]), scan_nil]
    have e : (cm && (10 : UInt8) != 10) = false := by simp
    rw [e]
    simp only [List.length_nil, Nat.add_zero, List.nil_append]
    cases scan (pos + 1) false y <;> rfl
  induction f with
  | zero =>
    intro x y pos cm hl
    cases x with
    | nil => exact hnil y pos cm
    | cons c r => simp at hl
  | succ f ih =>
    intro x y pos cm hl
    cases x with
    | nil => exact hnil y pos cm
    | cons c r =>
      have hr : r.length ≤ f := by simp at hl; omega
      have hlen : ∀ p, p + 1 + r.length + 1 = p + (c :: r).length + 1 := by intro p; simp; omega
      rw [List.cons_append]
      by_cases h1 : ((cm && c != 10) || isBlank c) = true
      · rw [scan_idle h1, scan_idle h1, ih r y _ _ hr, hlen]
      · have h1' : ((cm && c != 10) || isBlank c) = false := by simpa using h1
        by_cases h2 : c = 35
        · rw [scan_comment h1' h2, scan_comment h1' h2, ih r y _ _ hr, hlen]
        · rw [scan_tok h1' h2, scan_tok h1' h2, tok_join]
          cases h3 : tok c r with
          | error e => rfl
          | ok p =>
            obtain ⟨x, rest⟩ := p
            have hle := tok_len h3
            simp only
            have e1 : pos + ((r ++ 10 :: y).length + 1 - (rest ++ 10 :: y).length) = pos + (r.length + 1 - rest.length) := by simp; omega
            rw [e1, ih rest y _ _ (by omega)]
            have e2 : pos + (r.length + 1 - rest.length) + rest.length + 1 = pos + (c :: r).length + 1 := by simp; omega
            rw [e2]
            cases scan (pos + (r.length + 1 - rest.length)) false rest with
            | error e => rfl
            | ok a =>
              simp only
              cases scan (pos + (c :: r).length + 1) false y with
              | error e => rfl
              | ok b => rfl

/-- the same tokens, so much further on -/
def move (d : Nat) (t : Tok) : Tok := ⟨t.kind, t.text, t.n, t.pos + d⟩

theorem scan_move (d : Nat) (f : Nat) : ∀ (s : List UInt8) (pos : Nat) (cm : Bool), s.length ≤ f → scan (pos + d) cm s = (match scan pos cm s with
    | .error e => .error (e.1 + d, e.2)
    | .ok l => .ok (l.map (move d))) := by
  induction f with
  | zero =>
    intro s pos cm hl
    cases s with
    | nil => rfl
    | cons c r => simp at hl
  | succ f ih =>
    intro s pos cm hl
    cases s with
    | nil => rfl
    | cons c r =>
      have hr : r.length ≤ f := by simp at hl; omega
      have e1 : pos + d + 1 = pos + 1 + d := by omega
      by_cases h1 : ((cm && c != 10) || isBlank c) = true
      · rw [scan_idle h1, scan_idle h1, e1, ih r _ _ hr]
      · have h1' : ((cm && c != 10) || isBlank c) = false := by simpa using h1
        by_cases h2 : c = 35
        · rw [scan_comment h1' h2, scan_comment h1' h2, e1, ih r _ _ hr]
        · rw [scan_tok h1' h2, scan_tok h1' h2]
          cases h3 : tok c r with
          | error e => rfl
          | ok p =>
            obtain ⟨x, rest⟩ := p
            have hle := tok_len h3
            simp only
            have e2 : pos + d + (r.length + 1 - rest.length) = pos + (r.length + 1 - rest.length) + d := by omega
            rw [e2, ih rest _ _ (by omega)]
            cases scan (pos + (r.length + 1 - rest.length)) false rest with
            | error e => rfl
            | ok a => rfl

/-! an error -/

theorem takeWhile_take {p : UInt8 → Bool} (l : List UInt8) : ∀ k, l.length - (l.dropWhile p).length ≤ k → (l.take k).takeWhile p = l.takeWhile p ∧ (l.take k).dropWhile p = (l.dropWhile p).take (k - (l.length - (l.dropWhile p).length)) := by
  induction l with
  | nil => intro k _; simp
  | cons a l ih =>
    intro k hk
    rw [List.dropWhile_cons] at hk ⊢
    rw [List.takeWhile_cons]
    by_cases h : p a = true
    · rw [if_pos h] at hk
      have hle := length_dropWhile_le p l
      obtain ⟨k, rfl⟩ : ∃ k', k = k' + 1 := ⟨k - 1, by simp at hk; omega⟩
      rw [List.take_succ_cons, List.takeWhile_cons, List.dropWhile_cons, if_pos h, if_pos h, if_pos h, if_pos h]
      obtain ⟨i1, i2⟩ := ih k (by simp at hk; omega)
      rw [i1, i2]
      refine ⟨rfl, ?_⟩
      congr 1
      simp
      omega
    · rw [if_neg h] at hk
      rw [if_neg h, if_neg h]
      cases k with
      | zero => simp
      | succ k =>
        rw [List.take_succ_cons, List.takeWhile_cons, List.dropWhile_cons, if_neg h, if_neg h]
        refine ⟨rfl, ?_⟩
        simp

theorem unq_take (f : Nat) : ∀ (l : List UInt8) (p : List UInt8 × List UInt8) (k : Nat), l.length ≤ f → unq l = some p → l.length - p.2.length ≤ k → unq (l.take k) = some (p.1, p.2.take (k - (l.length - p.2.length))) := by
  intro l p k hf h hk
  have e := unq_only l.length l p.1 p.2 (Nat.le_refl _) h
  have hl : l.length = (esc p.1).length + 1 + p.2.length := by rw [e]; simp; omega
  have e2 : l.take k = esc p.1 ++ 34 :: p.2.take (k - (l.length - p.2.length)) := by
    have : esc p.1 ++ 34 :: p.2 = (esc p.1 ++ [34]) ++ p.2 := by simp
    rw [e, this, List.take_append, List.take_of_length_le (by simp; omega)]
    simp
    congr 1
    omega
  rw [e2, unq_esc_all]

theorem tok_take {c : UInt8} {r : List UInt8} {x : Nat × List UInt8 × Nat} {rest : List UInt8} (h : tok c r = .ok (x, rest)) (k : Nat) (hk : r.length - rest.length ≤ k) : tok c (r.take k) = .ok (x, rest.take (k - (r.length - rest.length))) := by
  unfold tok at h ⊢
  by_cases h1 : isLetter c = true
  · rw [if_pos h1] at h ⊢
    by_cases h2 : okName (c :: r.takeWhile isWord) = true
    · rw [if_pos h2] at h
      cases h
      obtain ⟨e1, e2⟩ := takeWhile_take (p := isWord) r k hk
      rw [e1, e2, if_pos h2]
    · rw [if_neg h2] at h; cases h
  · rw [if_neg h1] at h ⊢
    by_cases h3 : isDigit c = true
    · rw [if_pos h3] at h ⊢
      by_cases h2 : okNumber (c :: r.takeWhile isDigit) = true
      · rw [if_pos h2] at h
        cases h
        obtain ⟨e1, e2⟩ := takeWhile_take (p := isDigit) r k hk
        rw [e1, e2, if_pos h2]
      · rw [if_neg h2] at h; cases h
    · rw [if_neg h3] at h ⊢
      by_cases h4 : c = 34
      · rw [if_pos h4] at h ⊢
        cases h5 : unq r with
        | none => rw [h5] at h; cases h
        | some p =>
          rw [h5] at h
          simp only at h
          by_cases h6 : okValue p.1 = true
          · rw [if_pos h6] at h
            cases h
            rw [unq_take r.length r p k (Nat.le_refl _) h5 hk]
            simp only
            rw [if_pos h6]
          · rw [if_neg h6] at h; cases h
      · rw [if_neg h4] at h ⊢
        by_cases h5 : isSign c = true
        · rw [if_pos h5] at h ⊢
          cases h
          simp
        · rw [if_neg h5] at h; cases h

theorem tok_err {c : UInt8} {r : List UInt8} {e : Nat} (h : tok c r = .error e) : e = eToken ∨ e = eRange ∨ e = eQuote := by
  unfold tok at h
  split at h
  · split at h <;> cases h; exact .inr (.inl rfl)
  · split at h
    · split at h <;> cases h; exact .inr (.inl rfl)
    · split at h
      · split at h
        · cases h; exact .inr (.inr rfl)
        · split at h <;> cases h; exact .inr (.inr rfl)
      · split at h <;> cases h; exact .inl rfl

/-- where the error is: before it there are tokens; from there on it is the first -/
theorem scan_err (f : Nat) : ∀ (s : List UInt8) (pos p e : Nat) (cm : Bool), s.length ≤ f → scan pos cm s = .error (p, e) →
    pos ≤ p ∧ p - pos < s.length ∧ (∃ l, scan pos cm (s.take (p - pos)) = .ok l) ∧ (∀ q, scan q false (s.drop (p - pos)) = .error (q, e)) ∧ (e = eToken ∨ e = eRange ∨ e = eQuote) := by
  induction f with
  | zero =>
    intro s pos p e cm hl h
    cases s with
    | nil => rw [scan_nil] at h; cases h
    | cons c r => simp at hl
  | succ f ih =>
    intro s pos p e cm hl h
    cases s with
    | nil => rw [scan_nil] at h; cases h
    | cons c r =>
      have hr : r.length ≤ f := by simp at hl; omega
      by_cases h1 : ((cm && c != 10) || isBlank c) = true
      · rw [scan_idle h1] at h
        obtain ⟨a1, a2, ⟨l, a3⟩, a4, a5⟩ := ih r _ p e _ hr h
        obtain ⟨k, hk⟩ : ∃ k, p - pos = k + 1 := ⟨p - pos - 1, by omega⟩
        have hk' : p - (pos + 1) = k := by omega
        rw [hk'] at a2 a3 a4
        refine ⟨by omega, by simp; omega, ⟨l, ?_⟩, ?_, a5⟩
        · rw [hk, List.take_succ_cons, scan_idle h1]; exact a3
        · rw [hk, List.drop_succ_cons]; exact a4
      · have h1' : ((cm && c != 10) || isBlank c) = false := by simpa using h1
        by_cases h2 : c = 35
        · rw [scan_comment h1' h2] at h
          obtain ⟨a1, a2, ⟨l, a3⟩, a4, a5⟩ := ih r _ p e _ hr h
          obtain ⟨k, hk⟩ : ∃ k, p - pos = k + 1 := ⟨p - pos - 1, by omega⟩
          have hk' : p - (pos + 1) = k := by omega
          rw [hk'] at a2 a3 a4
          refine ⟨by omega, by simp; omega, ⟨l, ?_⟩, ?_, a5⟩
          · rw [hk, List.take_succ_cons, scan_comment h1' h2]; exact a3
          · rw [hk, List.drop_succ_cons]; exact a4
        · rw [scan_tok h1' h2] at h
          cases h3 : tok c r with
          | error e' =>
            rw [h3] at h
            cases h
            refine ⟨Nat.le_refl _, by simp, ⟨[], by simp [scan_nil]⟩, fun q => ?_, tok_err h3⟩
            rw [Nat.sub_self, List.drop_zero, scan_tok (by have : isBlank c = false := by (simp only [Bool.or_eq_false_iff] at h1'; exact h1'.2)
                                                           simp [this]) h2, h3]
          | ok pr =>
            obtain ⟨x, rest⟩ := pr
            have hle := tok_len h3
            have hsh := (tok_ok h3 pos).2
            have hshl := congrArg List.length hsh
            rw [List.length_append, List.length_cons] at hshl
            rw [h3] at h
            simp only at h
            cases h4 : scan (pos + (r.length + 1 - rest.length)) false rest with
            | ok l => rw [h4] at h; cases h
            | error e' =>
              rw [h4] at h
              simp only [Except.error.injEq] at h
              subst h
              obtain ⟨a1, a2, ⟨l, a3⟩, a4, a5⟩ := ih rest _ p e _ (by omega) h4
              obtain ⟨k, hk⟩ : ∃ k, p - pos = k + 1 := ⟨p - pos - 1, by omega⟩
              have hk' : p - (pos + (r.length + 1 - rest.length)) = k - (r.length - rest.length) := by omega
              rw [hk'] at a2 a3 a4
              refine ⟨by omega, by simp; omega, ⟨⟨x.1, x.2.1, x.2.2, pos⟩ :: l, ?_⟩, fun q => ?_, a5⟩
              · rw [hk, List.take_succ_cons, scan_tok h1' h2, tok_take h3 k (by omega)]
                simp only
                have e1 : pos + ((r.take k).length + 1 - (rest.take (k - (r.length - rest.length))).length) = pos + (r.length + 1 - rest.length) := by
                  rw [List.length_take, List.length_take]; omega
                rw [e1, a3]
              · have e1 : (c :: r).drop (p - pos) = rest.drop (k - (r.length - rest.length)) := by
                  rw [hsh, List.drop_append, List.drop_of_length_le (by omega), List.nil_append]
                  congr 1
                  omega
                rw [e1]
                exact a4 q

/-! quotes, names, numbers -/

theorem scan_one {t : Tok} (h : ok1 t) (pos : Nat) : scan pos false (shown t) = .ok [⟨t.kind, t.text, t.n, pos⟩] := by
  have := scan_shown h (rest := []) (.inl rfl) pos
  rw [List.append_nil, scan_nil] at this
  exact this

theorem scan_quoted {v : List UInt8} (h : okValue v = true) : scan 0 false (quoted v) = .ok [⟨2, v, 0, 0⟩] :=
  scan_one (t := ⟨2, v, 0, 0⟩) (.inr (.inr (.inl ⟨rfl, h, rfl⟩))) 0
theorem scan_name {v : List UInt8} (h : okName v = true) : scan 0 false v = .ok [⟨0, v, 0, 0⟩] :=
  scan_one (t := ⟨0, v, 0, 0⟩) (.inl ⟨rfl, h, rfl⟩) 0
theorem scan_number {v : List UInt8} (h : okNumber v = true) : scan 0 false v = .ok [⟨1, v, val v, 0⟩] :=
  scan_one (t := ⟨1, v, val v, 0⟩) (.inr (.inl ⟨rfl, h, rfl⟩)) 0

/-- blanks hold no token -/
theorem scan_blanks (n : Nat) : ∀ pos, scan pos false (List.replicate n 32) = .ok [] := by
  induction n with
  | zero => intro pos; rfl
  | succ n ih => intro pos; rw [List.replicate_succ, scan_blank, ih]

end Go.Proofs.YtmpgbdibagnanaaDoor.Lx
