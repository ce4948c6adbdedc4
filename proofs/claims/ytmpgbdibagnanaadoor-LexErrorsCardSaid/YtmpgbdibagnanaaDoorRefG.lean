/-
  The reference's Print; the laws' cut and idle.
-/
import Derived.Test.YtmpgbdibagnanaaDoorRefF
namespace Go.Proofs.YtmpgbdibagnanaaDoor
open Go.RowKit

/-- a token whose numbers are any ints -/
structure TI where
  kind : Int
  text : List UInt8
  n : Int
  pos : Int

def toI (t : Lx.Tok) : TI := ⟨t.kind, t.text, t.n, t.pos⟩
def tiC (t : TI) : List Value := [.int .i64 t.kind, .string (mk t.text), .int .i64 t.n, .int .i64 t.pos]
theorem tiC_toI (t : Lx.Tok) : tiC (toI t) = tokC t := rfl

/-- a slice value reads as a list of tokens -/
def TAt (w : World) (v : Value) (l : List TI) : Prop := ∃ a cap, v = .slice a l.length cap ∧ ∀ j t, l[j]? = some t → ∃ b off, a = some ⟨b, off, none⟩ ∧ b < w.heap.size ∧
  w.cell? ⟨b, off + j * 4, none⟩ = some (.int .i64 t.kind) ∧ w.cell? ⟨b, off + j * 4 + 1, none⟩ = some (.string (mk t.text)) ∧ w.cell? ⟨b, off + j * 4 + 2, none⟩ = some (.int .i64 t.n) ∧ w.cell? ⟨b, off + j * 4 + 3, none⟩ = some (.int .i64 t.pos)

theorem TAt.below {w w' : World} {v : Value} {l : List TI} {B : Nat} (h : TAt w v l) (hb : Below B w w') (hB : w.heap.size ≤ B) : TAt w' v l := by
  obtain ⟨a, cap, rfl, h⟩ := h
  refine ⟨a, cap, rfl, fun j t ht => ?_⟩
  obtain ⟨b, off, e, hlt, h0, h1, h2, h3⟩ := h j t ht
  have hc : ∀ o, w'.cell? ⟨b, o, none⟩ = w.cell? ⟨b, o, none⟩ := fun o => hb.cell (p := ⟨b, o, none⟩) (by show b < B; omega)
  refine ⟨b, off, e, by have := hb.size; omega, ?_, ?_, ?_, ?_⟩ <;> rw [hc] <;> assumption

theorem toksC_get (l : List Lx.Tok) : ∀ (j : Nat) (t : Lx.Tok), l[j]? = some t → ∀ i u, (tokC t)[i]? = some u → i < 4 → (toksC l)[j * 4 + i]? = some u := by
  induction l with
  | nil => intro j t h; simp at h
  | cons x l ih =>
    intro j t h i u hu hi
    have hl : (tokC x).length = 4 := rfl
    have e : toksC (x :: l) = tokC x ++ toksC l := by simp [toksC]
    rw [e]
    cases j with
    | zero =>
      simp at h
      subst h
      rw [List.getElem?_append_left (by omega), Nat.zero_mul, Nat.zero_add]
      exact hu
    | succ j =>
      rw [List.getElem?_append_right (by omega), hl, show (j + 1) * 4 + i - 4 = j * 4 + i from by omega]
      exact ih j t (by simpa using h) i u hu hi

/-- what the call owns reads as tokens -/
theorem own_toks {w : World} {base : Nat} {e : TypeId} {v : Value} {l : List Lx.Tok} (h : w.ownsRow base e 4 v l.length (toksC l)) : TAt w v (l.map toI) := by
  have hc := fun g => h.cells (g := g)
  rcases h.2 with ⟨rfl, h0⟩ | ⟨g, cap, cur, rfl, _, hg, _⟩
  · have : l = [] := List.eq_nil_of_length_eq_zero h0
    subst this
    exact ⟨none, 0, rfl, fun j t ht => by simp at ht⟩
  · refine ⟨some ⟨g, 0, none⟩, cap, by rw [List.length_map], fun j t ht => ?_⟩
    rw [List.getElem?_map] at ht
    cases hj : l[j]? with
    | none => rw [hj] at ht; cases ht
    | some t0 =>
      rw [hj] at ht
      simp at ht
      subst ht
      have key : ∀ i u, (tokC t0)[i]? = some u → i < 4 → w.cell? ⟨g, 0 + (j * 4 + i), none⟩ = some u := by
        intro i u hu hi
        have := hc g rfl (j * 4 + i) u (toksC_get l j t0 hj i u hu hi)
        rwa [show (⟨g, 0, none⟩ : Addr).add (j * 4 + i) = ⟨g, 0 + (j * 4 + i), none⟩ from by unfold Addr.add; split <;> simp_all] at this
      exact ⟨g, 0, rfl, (Array.getElem?_eq_some_iff.1 hg).1, key 0 _ rfl (by omega), key 1 _ rfl (by omega), key 2 _ rfl (by omega), key 3 _ rfl (by omega)⟩

def shownI (t : TI) : List UInt8 := if t.kind = 2 then Lx.quoted t.text else t.text
theorem shownI_toI (t : Lx.Tok) : shownI (toI t) = Lx.shown t := by
  unfold shownI Lx.shown
  show (if (t.kind : Int) = 2 then _ else _) = _
  by_cases h : t.kind = 2
  · rw [if_pos h, if_pos (by omega)]; rfl
  · rw [if_neg h, if_neg (by omega)]; rfl

/-- the text of tokens, from the left -/
def printF : List UInt8 → Bool → List TI → List UInt8
  | acc, _, [] => acc
  | acc, first, t :: l => printF ((if first then acc else acc ++ [32]) ++ shownI t) false l
def printI (l : List TI) : List UInt8 := printF [] true l

theorem printF_snoc (l : List TI) : ∀ (acc : List UInt8) (f : Bool) (t : TI), printF acc f (l ++ [t]) = (if f && l.isEmpty then printF acc f l else printF acc f l ++ [32]) ++ shownI t := by
  induction l with
  | nil => intro acc f t; cases f <;> rfl
  | cons x l ih =>
    intro acc f t
    rw [List.cons_append, printF, ih]
    simp [printF]
theorem printI_snoc (l : List TI) (t : TI) : printI (l ++ [t]) = (if l.isEmpty then [] else printI l ++ [32]) ++ shownI t := by
  unfold printI
  rw [printF_snoc]
  cases l with
  | nil => rfl
  | cons x l => rfl

theorem printF_acc (l : List TI) : ∀ (acc : List UInt8), printF acc false l = acc ++ printF [] false l := by
  induction l with
  | nil => intro acc; simp [printF]
  | cons x l ih => intro acc; rw [printF, printF, ih, ih ((if false = true then [] else [] ++ [32]) ++ shownI x)]; simp
theorem printI_print (l : List Lx.Tok) : printI (l.map toI) = Lx.print l := by
  have key : ∀ (l : List Lx.Tok) (t : Lx.Tok), printF (Lx.shown t) false (l.map toI) = Lx.print (t :: l) := by
    intro l
    induction l with
    | nil => intro t; rfl
    | cons u l ih =>
      intro t
      show printF (Lx.shown t ++ [32] ++ shownI (toI u)) false (l.map toI) = Lx.shown t ++ 32 :: Lx.print (u :: l)
      rw [← ih u, printF_acc, shownI_toI, printF_acc _ (Lx.shown u)]
      simp
  cases l with
  | nil => rfl
  | cons t l =>
    rw [← key l t]
    show printF ([] ++ shownI (toI t)) false (l.map toI) = _
    rw [shownI_toI]
    rfl

theorem shownI_len (t : TI) : (shownI t).length ≤ 2 * t.text.length + 2 := by
  unfold shownI
  split
  · have := esc_len t.text
    simp [Lx.quoted]; omega
  · omega

def PrRel (l : List TI) (M : Nat) (out i : Value) : Prop := ∃ k : Nat, k ≤ l.length ∧ i = .int .i64 k ∧ out = .string (mk (printI (l.take k))) ∧ (printI (l.take k)).length ≤ k * (2 * M + 3)

set_option maxHeartbeats 1600000 in
theorem Print_x (v : Value) (l : List TI) (M : Nat) (w : World) (hat : TAt w v l) (hM : ∀ t ∈ l, t.text.length ≤ M) (hM2 : M ≤ 100000) (hl : l.length ≤ 100000) :
    Calls Tryd.prog 21 #[v] w fun e w' => e = .returned (.string (mk (printI l))) ∧ w = w' := by
  obtain ⟨a, cap, rfl, hc⟩ := hat
  go_enter Tryd.func21, Tryd.ntmps21
  go_wp2_with fail
  go_loop [3, 4] (fun out i => PrRel l M out i) (fun _ i => l.length - (intOf i).toNat)
  case atStart => exact ⟨0, Nat.zero_le _, rfl, rfl, by simp [printI, printF]⟩
  case round =>
    obtain ⟨k, hk, rfl, rfl, hlen⟩ := hrel
    by_cases hlt : k < l.length
    · have hx : Hid (l[k]? = some l[k]) := List.getElem?_eq_getElem hlt
      obtain ⟨t, et⟩ : ∃ t, t = l[k] := ⟨_, rfl⟩
      rw [← et] at hx
      obtain ⟨b, off, rfl, hbl, h0, h1, h2, h3⟩ := hc k t hx.out
      have htl := hM t (by rw [et]; simp)
      have hsl := shownI_len t
      have hts : Hid (l.take (k + 1) = l.take k ++ [t]) := by show _ = _; rw [List.take_add_one, hx.out]; rfl
      have hmul : (k + 1) * (2 * M + 3) = k * (2 * M + 3) + (2 * M + 3) := Nat.succ_mul _ _
      have hbig : k * (2 * M + 3) ≤ 100000 * 200003 := Nat.mul_le_mul (by omega) (by omega)
      have hms : (mk (printI (l.take k))).size ≤ 20000300000 := by rw [mk_size]; omega
      have hss : (mk (shownI t)).size ≤ 200002 := by rw [mk_size]; omega
      have htx : (mk t.text).size ≤ 100000 := by rw [mk_size]; omega
      have hlen' : Hid ((printI (l.take (k + 1))).length ≤ (k + 1) * (2 * M + 3)) := by
        show _ ≤ _
        rw [hts.out, printI_snoc, hmul]
        have hcase : ∀ (bb : Bool), ((if bb then [] else printI (l.take k) ++ [32]) ++ shownI t).length ≤ k * (2 * M + 3) + (2 * M + 3) := by
          intro bb
          cases bb
          · show ((printI (l.take k) ++ [32]) ++ shownI t).length ≤ _
            rw [List.length_append, List.length_append]
            have : ([32] : List UInt8).length = 1 := rfl
            omega
          · show (([] : List UInt8) ++ shownI t).length ≤ _
            rw [List.nil_append]
            omega
        exact hcase _
      have hr0 : Hid (k = 0 → mk (printI (l.take k)) ++ mk (shownI t) = mk (printI (l.take (k + 1)))) := by
        intro hk0
        rw [hts.out, printI_snoc, mk_append, hk0, List.take_zero]
        rfl
      have hr1 : Hid (0 < k → mk (printI (l.take k)) ++ mk [32] ++ mk (shownI t) = mk (printI (l.take (k + 1)))) := by
        intro hk0
        rw [hts.out, printI_snoc, mk_append, mk_append]
        have : (l.take k).isEmpty = false := by
          rw [List.isEmpty_eq_false_iff]
          intro h
          have := congrArg List.length h
          rw [List.length_take, List.length_nil] at this
          omega
        rw [this]
        rfl
      clear hc et hx hmul hbig hsl hlen
      by_cases hkd : t.kind = 2
      · have hb2 : (t.kind == 2) = true := by simp [hkd]
        have hsh : Hid (shownI t = Lx.quoted t.text) := if_pos hkd
        rw [hsh.out] at hss
        have Hr0 := Lib.hid hr0.out
        clear hkd hr0
        by_cases hk0 : 0 < k
        · have hR := Lib.hid (hr1.out hk0)
          clear hr1
          go_wp2_with fail
          refine (Escaped_x (mk t.text) _ (by omega)).mono ?_
          rintro e w1 ⟨rfl, rfl⟩
          rw [mk_toList]
          go_wp2
          go_round
          case rel => exact ⟨k + 1, by omega, rfl, by rw [← hR.out, hsh.out]; rfl, hlen'.out⟩
          case measure => simp [intOf]; omega
        · have hR := Lib.hid (Hr0.out (by omega))
          clear hr1
          go_wp2_with fail
          refine (Escaped_x (mk t.text) _ (by omega)).mono ?_
          rintro e w1 ⟨rfl, rfl⟩
          rw [mk_toList]
          go_wp2
          go_round
          case rel => exact ⟨k + 1, by omega, rfl, by rw [← hR.out, hsh.out], hlen'.out⟩
          case measure => simp [intOf]; omega
      · have hb2 : (t.kind == 2) = false := by rw [beq_eq_false_iff_ne]; exact hkd
        have hsh : Hid (shownI t = t.text) := if_neg hkd
        clear hkd
        by_cases hk0 : 0 < k
        · have hR := Lib.hid (hr1.out hk0)
          clear hr1 hr0
          go_wp2
          go_round
          case rel => exact ⟨k + 1, by omega, rfl, by rw [← hR.out, hsh.out]; rfl, hlen'.out⟩
          case measure => simp [intOf]; omega
        · have hR := Lib.hid (hr0.out (by omega))
          clear hr1 hr0
          go_wp2
          go_round
          case rel => exact ⟨k + 1, by omega, rfl, by rw [← hR.out, hsh.out], hlen'.out⟩
          case measure => simp [intOf]; omega
    · have hk' : k = l.length := by omega
      have hfin : Hid (printI (l.take k) = printI l) := by show _ = _; rw [List.take_of_length_le (by omega)]
      go_wp2
      go_ret
      exact ⟨by first | rfl | rw [hfin.out], rfl⟩


theorem cut_x (s : ByteArray) (w : World) (hs : s.size ≤ 140737488351232) : Calls Tryd.prog 10 #[.string s] w fun e w' => e = .returned (.string (mk (s.data.toList.take 900))) ∧ w = w' := by
  have h1 : Hid (900 < s.size → s.extract 0 900 = mk (s.data.toList.take 900)) := fun _ => by rw [extract_mk, List.drop_zero]
  have h2 : Hid (¬ 900 < s.size → s = mk (s.data.toList.take 900)) := fun h => by rw [List.take_of_length_le (by rw [← size_of]; omega)]; rfl
  by_cases h : 900 < s.size
  · have h3 := Lib.hid (h1.out h)
    go_enter Tryd.func10, Tryd.ntmps10
    go_wp2
    go_ret
    exact ⟨by rw [← h3.out]; rfl, rfl⟩
  · have h3 := Lib.hid (h2.out h)
    go_enter Tryd.func10, Tryd.ntmps10
    go_wp2
    go_ret
    exact ⟨by rw [← h3.out]; rfl, rfl⟩

theorem c35_iff {c : UInt8} : (c == 35) = true ↔ (c.toNat : Int) = 35 := by rw [beq_iff_eq, ← UInt8.toNat_inj]; simp; omega
theorem c35_no {c : UInt8} (h : ¬ (c.toNat : Int) = 35) : (c == 35) = false := by
  cases hb : (c == 35) with
  | false => rfl
  | true => exact absurd (c35_iff.1 hb) h

set_option maxHeartbeats 1600000 in
theorem idle_x (s : ByteArray) (w : World) (hs : s.size ≤ 1099511627776) : Calls Tryd.prog 24 #[.string s] w fun e w' => e = .returned (.bool (Lx.idle s.data.toList)) ∧ w = w' := by
  go_enter Tryd.func24, Tryd.ntmps24
  go_wp2_with fail
  go_loop [3, 4] (fun c i => ∃ (k : Nat) (cm : Bool), k ≤ s.size ∧ i = .int .i64 k ∧ c = .bool cm ∧ Lx.idleS false s.data.toList = Lx.idleS cm (s.data.toList.drop k)) (fun _ i => s.size - (intOf i).toNat)
  case atStart => exact ⟨0, false, Nat.zero_le _, rfl, rfl, by simp⟩
  case round =>
    obtain ⟨k, cm, hk, rfl, rfl, hi⟩ := hrel
    have Hi := Lib.hid hi
    clear hi
    by_cases hlt : k < s.size
    · have hst : Hid (∀ f, (s[k] == 35 || (cm && s[k] != 10)) = f → Lx.idleS false s.data.toList = if !f && !Lx.isBlank s[k] then none else Lx.idleS f (s.data.toList.drop (k + 1))) := by
        intro f hf
        rw [Hi.out, drop_cons s k hlt, Lx.idleS, hf]
      by_cases h35 : (s[k].toNat : Int) = 35
      · have hb : ((s[k].toNat : Int) == 35) = true := by simp [h35]
        have hn := Lib.hid (hst.out true (by rw [c35_iff.2 h35]; rfl))
        clear h35
        go_wp2
        go_round
        case rel => exact ⟨k + 1, true, by omega, rfl, rfl, hn.out⟩
        case measure => simp [intOf]; omega
      · have hb : ((s[k].toNat : Int) == 35) = false := by rw [beq_eq_false_iff_ne]; exact h35
        have h35' := Lib.hid (c35_no h35)
        clear h35
        by_cases hcm : cm = true ∧ ¬ (s[k].toNat : Int) = 10
        · obtain ⟨rfl, h10⟩ := hcm
          have hb10 : ((s[k].toNat : Int) != 10) = true := by rw [bne_iff_ne]; exact h10
          have hn := Lib.hid (hst.out true (by rw [h35'.out, c10_ne h10]; rfl))
          clear h10
          go_wp2
          go_round
          case rel => exact ⟨k + 1, true, by omega, rfl, rfl, hn.out⟩
          case measure => simp [intOf]; omega
        · have hfl : Hid ((s[k] == 35 || (cm && s[k] != 10)) = false) := by
            show _ = _
            rw [h35'.out]
            cases cm with
            | false => rfl
            | true =>
              have : (s[k].toNat : Int) = 10 := by
                by_cases h : (s[k].toNat : Int) = 10
                · exact h
                · exact absurd ⟨rfl, h⟩ hcm
              rw [c10_is this]; rfl
          have hn := Lib.hid (hst.out false hfl.out)
          have hcase : cm = false ∨ (cm = true ∧ ((s[k].toNat : Int) != 10) = false) := by
            cases cm with
            | false => exact .inl rfl
            | true =>
              right
              refine ⟨rfl, ?_⟩
              by_cases h : (s[k].toNat : Int) = 10
              · simp [h]
              · exact absurd ⟨rfl, h⟩ hcm
          clear hcm
          rcases hcase with rfl | ⟨rfl, hb10⟩
          all_goals
            go_wp2_with fail
            refine (Blank_x s[k] _).mono ?_
            rintro e w1 ⟨rfl, rfl⟩
            cases hbl : Lx.isBlank s[k] with
            | true =>
              have hn2 : Hid (Lx.idleS false s.data.toList = Lx.idleS false (s.data.toList.drop (k + 1))) := by
                show _ = _
                have := hn.out
                rw [hbl] at this
                exact this
              clear hbl
              go_wp2
              go_round
              case rel => exact ⟨k + 1, false, by omega, rfl, rfl, hn2.out⟩
              case measure => simp [intOf]; omega
            | false =>
              have hn2 : Hid (Lx.idle s.data.toList = false) := by
                show _ = _
                have := hn.out
                rw [hbl] at this
                unfold Lx.idle
                rw [this]
                rfl
              clear hbl
              go_wp2
              go_ret
              exact ⟨ret_b hn2.out.symm, rfl⟩
    · have hfin : Hid (Lx.idle s.data.toList = true) := by
        show _ = _
        unfold Lx.idle
        rw [Hi.out, show k = s.size from by omega, drop_end]
        rfl
      go_wp2
      go_ret
      exact ⟨ret_b hfin.out.symm, rfl⟩

end Go.Proofs.YtmpgbdibagnanaaDoor
