/-
  Plain mathematics of layer 2, on: where the tokens stand, and what lies between them.
-/
import Derived.Test.YtmpgbdibagnanaaDoorLexJoin
namespace Go.Proofs.YtmpgbdibagnanaaDoor.Lx

/-- whether bytes are blanks and comments: the comment flag behind them -/
def idleS : Bool → List UInt8 → Option Bool
  | cm, [] => some cm
  | cm, c :: r => if !(c == 35 || (cm && c != 10)) && !isBlank c then none else idleS (c == 35 || (cm && c != 10)) r
def idle (s : List UInt8) : Bool := (idleS false s).isSome

theorem idleS_append (a : List UInt8) : ∀ (b : List UInt8) (cm : Bool), idleS cm (a ++ b) = (idleS cm a).bind fun cm' => idleS cm' b := by
  induction a with
  | nil => intro b cm; rfl
  | cons c r ih =>
    intro b cm
    rw [List.cons_append, idleS, idleS]
    split
    · rfl
    · exact ih b _

/-- the tokens of s stand at their places, from 'at' on, and nothing else but blanks and comments -/
def Places (s : List UInt8) : Nat → List Tok → Prop
  | a, [] => idle (s.drop a) = true
  | a, t :: l => a ≤ t.pos ∧ 1 ≤ (shown t).length ∧ t.pos + (shown t).length ≤ s.length ∧ (s.drop t.pos).take (shown t).length = shown t ∧ idle ((s.drop a).take (t.pos - a)) = true ∧
      (t.kind ≠ 1 → t.n = 0) ∧ Places s (t.pos + (shown t).length) l


theorem ok1_shown {t : Tok} (h : ok1 t) : 1 ≤ (shown t).length ∧ (t.kind ≠ 1 → t.n = 0) := by
  obtain ⟨c, r, e, _⟩ := tok_shown h (rest := []) (.inl rfl)
  refine ⟨by rw [e]; simp, ?_⟩
  rcases h with ⟨_, _, h⟩ | ⟨h, _⟩ | ⟨_, _, h⟩ | ⟨_, _, h⟩
  · exact fun _ => h
  · exact fun hk => absurd h hk
  · exact fun _ => h
  · exact fun _ => h

theorem take_more {s : List UInt8} {a k : Nat} {c : UInt8} {r : List UInt8} (h : s.drop (a + k) = c :: r) : (s.drop a).take (k + 1) = (s.drop a).take k ++ [c] := by
  have hd : (s.drop a).drop k = c :: r := by rw [List.drop_drop]; exact h
  have h2 : s.drop a = (s.drop a).take k ++ c :: r := by rw [← hd, List.take_append_drop]
  have hl : ((s.drop a).take k).length = k := by
    have : k < (s.drop a).length := by
      have := congrArg List.length hd
      rw [List.length_drop, List.length_cons] at this
      omega
    rw [List.length_take]; omega
  conv => lhs; rw [h2]
  rw [List.take_append, hl, List.take_of_length_le (by omega), Nat.add_sub_cancel_left]
  rfl

theorem scan_places (f : Nat) : ∀ (s : List UInt8) (a pos : Nat) (cm : Bool) (l : List Tok), (s.drop pos).length ≤ f → a ≤ pos → idleS false ((s.drop a).take (pos - a)) = some cm → scan pos cm (s.drop pos) = .ok l → Places s a l := by
  have hnil : ∀ (s : List UInt8) (a pos : Nat) (cm : Bool) (l : List Tok), s.drop pos = [] → a ≤ pos → idleS false ((s.drop a).take (pos - a)) = some cm → scan pos cm (s.drop pos) = .ok l → Places s a l := by
    intro s a pos cm l hn ha hi h
    rw [hn, scan_nil] at h
    cases h
    show idle (s.drop a) = true
    have : (s.drop a).take (pos - a) = s.drop a := by
      apply List.take_of_length_le
      have := congrArg List.length hn
      simp only [List.length_drop, List.length_nil] at this ⊢
      omega
    rw [this] at hi
    unfold idle
    rw [hi]
    rfl
  induction f with
  | zero =>
    intro s a pos cm l hl ha hi h
    exact hnil s a pos cm l (List.eq_nil_of_length_eq_zero (by omega)) ha hi h
  | succ f ih =>
    intro s a pos cm l hl ha hi h
    cases hd : s.drop pos with
    | nil => exact hnil s a pos cm l hd ha hi h
    | cons c r =>
      have hd1 : s.drop (pos + 1) = r := by
        have := congrArg List.tail hd
        rw [List.tail_drop] at this
        simpa using this
      have hr : (s.drop (pos + 1)).length ≤ f := by rw [hd] at hl; rw [hd1]; simp at hl; omega
      obtain ⟨k, hk⟩ : ∃ k, pos = a + k := ⟨pos - a, by omega⟩
      have htm : (s.drop a).take (pos + 1 - a) = (s.drop a).take (pos - a) ++ [c] := by
        have e1 : pos + 1 - a = k + 1 := by omega
        have e2 : pos - a = k := by omega
        rw [e1, e2]
        exact take_more (by rw [← hk]; exact hd)
      rw [hd] at h
      by_cases h1 : ((cm && c != 10) || isBlank c) = true
      · rw [scan_idle h1, ← hd1] at h
        refine ih s a (pos + 1) _ l hr (by omega) ?_ h
        rw [htm, idleS_append, hi]
        simp only [Option.bind_some, idleS]
        by_cases h2 : (cm && c != 10) = true
        · rw [h2]; simp
        · have h2' : (cm && c != 10) = false := by simpa using h2
          rw [h2'] at h1 ⊢
          simp only [Bool.false_or] at h1
          have hc : (c == 35) = false := by
            rw [beq_eq_false_iff_ne]
            rintro rfl
            revert h1
            decide
          rw [hc, h1]
          rfl
      · have h1' : ((cm && c != 10) || isBlank c) = false := by simpa using h1
        by_cases h2 : c = 35
        · rw [scan_comment h1' h2, ← hd1] at h
          refine ih s a (pos + 1) _ l hr (by omega) ?_ h
          rw [htm, idleS_append, hi]
          subst h2
          rfl
        · rw [scan_tok h1' h2] at h
          cases h3 : tok c r with
          | error e => rw [h3] at h; cases h
          | ok pr =>
            obtain ⟨x, rest⟩ := pr
            have hle := tok_len h3
            obtain ⟨hok, hsh⟩ := tok_ok h3 pos
            have hshl := congrArg List.length hsh
            rw [List.length_append, List.length_cons] at hshl
            rw [h3] at h
            simp only at h
            cases h4 : scan (pos + (r.length + 1 - rest.length)) false rest with
            | error e => rw [h4] at h; cases h
            | ok l' =>
              rw [h4] at h
              cases h
              obtain ⟨hs1, hs2⟩ := ok1_shown hok
              have hsz : r.length + 1 - rest.length = (shown ⟨x.1, x.2.1, x.2.2, pos⟩).length := by omega
              rw [hsz] at h4
              have hrest : s.drop (pos + (shown ⟨x.1, x.2.1, x.2.2, pos⟩).length) = rest := by
                rw [← List.drop_drop, hd, hsh, List.drop_left]
              have hlen : pos + (r.length + 1) = s.length := by
                have := congrArg List.length hd
                rw [List.length_drop, List.length_cons] at this
                omega
              refine ⟨ha, hs1, ?_, ?_, ?_, hs2, ?_⟩
              · show pos + (shown ⟨x.1, x.2.1, x.2.2, pos⟩).length ≤ s.length
                omega
              · show (s.drop pos).take (shown ⟨x.1, x.2.1, x.2.2, pos⟩).length = shown ⟨x.1, x.2.1, x.2.2, pos⟩
                rw [hd, hsh, List.take_left]
              · show idle ((s.drop a).take (pos - a)) = true
                unfold idle
                rw [hi]
                rfl
              · show Places s (pos + (shown ⟨x.1, x.2.1, x.2.2, pos⟩).length) l'
                refine ih s _ (pos + (shown ⟨x.1, x.2.1, x.2.2, pos⟩).length) false l' (by rw [hrest]; rw [hd] at hl; simp at hl; omega) (Nat.le_refl _) ?_ (by rw [hrest]; exact h4)
                rw [Nat.sub_self, List.take_zero]
                rfl

theorem places {s : List UInt8} {l : List Tok} (h : scan 0 false s = .ok l) : Places s 0 l :=
  scan_places s.length s 0 0 false l (by simp) (Nat.le_refl _) (by simp [idleS]) (by simpa using h)

end Go.Proofs.YtmpgbdibagnanaaDoor.Lx
