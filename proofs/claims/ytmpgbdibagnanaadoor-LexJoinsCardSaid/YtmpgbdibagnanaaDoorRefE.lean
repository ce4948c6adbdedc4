/-
  The reference's token.
-/
import Derived.Test.YtmpgbdibagnanaaDoorRefD
namespace Go.Proofs.YtmpgbdibagnanaaDoor
open Go.RowKit

def tokV (s : ByteArray) (b : Nat) (o : Except Nat ((Nat × List UInt8 × Nat) × List UInt8)) : Value := match o with
  | .error e => .tuple #[.agg #[.int .i64 0, .string ⟨#[]⟩, .int .i64 0, .int .i64 0], .int .i64 0, .int .i64 (e : Int)]
  | .ok p => .tuple #[.agg #[.int .i64 (p.1.1 : Int), .string (mk p.1.2.1), .int .i64 (p.1.2.2 : Int), .int .i64 (b : Int)], .int .i64 ((s.size - p.2.length : Nat) : Int), .int .i64 0]

/-- bytes of one sort from b + 1 to k, and on -/
def Run (p : UInt8 → Bool) (s : ByteArray) (b k : Nat) : Prop :=
  (s.data.toList.drop (b + 1)).takeWhile p = (s.data.toList.drop (b + 1)).take (k - (b + 1)) ++ (s.data.toList.drop k).takeWhile p ∧ (s.data.toList.drop (b + 1)).dropWhile p = (s.data.toList.drop k).dropWhile p

theorem run_start (p : UInt8 → Bool) (s : ByteArray) (b : Nat) : Run p s b (b + 1) := by
  unfold Run; rw [Nat.sub_self, List.take_zero]; exact ⟨rfl, rfl⟩
theorem run_step {p : UInt8 → Bool} {s : ByteArray} {b k : Nat} (h : Run p s b k) (hb : b + 1 ≤ k) (hk : k < s.size) (hp : p s[k] = true) : Run p s b (k + 1) := by
  obtain ⟨h1, h2⟩ := h
  have e := drop_cons s k hk
  refine ⟨?_, ?_⟩
  · rw [h1, e, List.takeWhile_cons, if_pos hp, show k + 1 - (b + 1) = (k - (b + 1)) + 1 from by omega]
    have : (s.data.toList.drop (b + 1)).drop (k - (b + 1)) = s[k] :: s.data.toList.drop (k + 1) := by
      rw [List.drop_drop, show b + 1 + (k - (b + 1)) = k from by omega, e]
    have h3 : (s.data.toList.drop (b + 1)).take (k - (b + 1) + 1) = (s.data.toList.drop (b + 1)).take (k - (b + 1)) ++ [s[k]] := by
      rw [List.take_add_one, ← List.head?_drop, this]
      rfl
    rw [h3]
    simp
  · rw [h2, e, List.dropWhile_cons, if_pos hp]
theorem run_done {p : UInt8 → Bool} {s : ByteArray} {b k : Nat} (h : Run p s b k) (hb : b + 1 ≤ k) (hk : k ≤ s.size) (hbs : b < s.size) (hp : ∀ h : k < s.size, p s[k] = false) :
    s[b] :: (s.data.toList.drop (b + 1)).takeWhile p = (s.extract b k).data.toList ∧ (s.data.toList.drop (b + 1)).dropWhile p = s.data.toList.drop k := by
  obtain ⟨h1, h2⟩ := h
  have h0 : (s.data.toList.drop k).takeWhile p = [] ∧ (s.data.toList.drop k).dropWhile p = s.data.toList.drop k := by
    by_cases hlt : k < s.size
    · rw [drop_cons s k hlt, List.takeWhile_cons, List.dropWhile_cons, hp hlt]
      exact ⟨rfl, rfl⟩
    · rw [show k = s.size from by omega, drop_end]
      exact ⟨rfl, rfl⟩
  refine ⟨?_, by rw [h2, h0.2]⟩
  rw [h1, h0.1, List.append_nil, extract_mk, mk_toList, drop_cons s b hbs, show k - b = (k - (b + 1)) + 1 from by omega, List.take_succ_cons]

theorem tok_name {c : UInt8} {r : List UInt8} (h : Lx.isLetter c = true) : Lx.tok c r = if Lx.okName (c :: r.takeWhile Lx.isWord) then .ok ((0, c :: r.takeWhile Lx.isWord, 0), r.dropWhile Lx.isWord) else .error Lx.eRange := by
  unfold Lx.tok; rw [if_pos h]
theorem tok_num {c : UInt8} {r : List UInt8} (h0 : Lx.isLetter c = false) (h : Lx.isDigit c = true) : Lx.tok c r = if Lx.okNumber (c :: r.takeWhile Lx.isDigit) then .ok ((1, c :: r.takeWhile Lx.isDigit, Lx.val (c :: r.takeWhile Lx.isDigit)), r.dropWhile Lx.isDigit) else .error Lx.eRange := by
  unfold Lx.tok; rw [if_neg (by rw [h0]; simp), if_pos h]

def TPost (s : ByteArray) (b : Nat) (hb : b < s.size) (w : World) (e : Ending) (w' : World) : Prop := e = .returned (tokV s b (Lx.tok s[b] (s.data.toList.drop (b + 1)))) ∧ Below w.heap.size w w'

theorem tpost_err {s : ByteArray} {b : Nat} {hb : b < s.size} {w w' : World} {e : Nat} (h : Lx.tok s[b] (s.data.toList.drop (b + 1)) = .error e) (hbl : Below w.heap.size w w') (x : Value) (hx : x = .int .i64 (e : Int)) :
    TPost s b hb w (.returned (.tuple #[.agg #[.int .i64 0, .string ⟨#[]⟩, .int .i64 0, .int .i64 0], .int .i64 0, x])) w' := by
  subst hx
  unfold TPost; rw [h]; exact ⟨rfl, hbl⟩
theorem tpost_ok {s : ByteArray} {b k : Nat} {hb : b < s.size} {w w' : World} {kd n : Nat} {t : List UInt8} (h : Lx.tok s[b] (s.data.toList.drop (b + 1)) = .ok ((kd, t, n), s.data.toList.drop k)) (hk : k ≤ s.size) (hbl : Below w.heap.size w w') (x y z u : Value)
    (hx : x = .int .i64 (kd : Int)) (hy : y = .string (mk t)) (hz : z = .int .i64 (n : Int)) (hu : u = .int .i64 (k : Int)) :
    TPost s b hb w (.returned (.tuple #[.agg #[x, y, z, .int .i64 (b : Int)], u, .int .i64 0])) w' := by
  subst hx; subst hy; subst hz; subst hu
  unfold TPost; rw [h]
  refine ⟨?_, hbl⟩
  simp only [tokV]
  rw [drop_len s k hk]

set_option maxHeartbeats 6400000 in
set_option maxRecDepth 100000 in
theorem token_name (s : ByteArray) (b : Nat) (w : World) (hs : s.size ≤ 1099511627776) (hb : b < s.size) (hl : Lx.isLetter s[b] = true) :
    Calls Tryd.prog 28 #[.string s, .int .i64 (b : Int)] w fun e w' => TPost s b hb w e w' := by
  have hT := Lib.hid (tok_name (r := s.data.toList.drop (b + 1)) hl)
  have Hl0 := Lib.hid hl
  clear hl
  go_enter Tryd.func28, Tryd.ntmps28
  go_wp2_with fail
  refine (letter_x s[b] _).mono ?_
  rintro e w1 ⟨rfl, rfl⟩
  rw [Hl0.out]
  go_wp2_with fail
  go_loop [7] (fun i => ∃ k : Nat, b + 1 ≤ k ∧ k ≤ s.size ∧ i = .int .i64 k ∧ Run Lx.isWord s b k) (fun i => s.size - (intOf i).toNat)
  case atStart => exact ⟨b + 1, Nat.le_refl _, hb, by go_num, run_start _ _ _⟩
  case round =>
    obtain ⟨k, hbk, hk, rfl, hr⟩ := hrel
    have Hr := Lib.hid hr
    clear hr
    have hgo := Lib.hid (fun (hlt : k < s.size) (hp : Lx.isWord s[k] = true) => run_step Hr.out hbk hlt hp)
    have hend := Lib.hid (fun hp => run_done Hr.out hbk hk hb hp)
    by_cases hlt : k < s.size
    · go_wp2_with fail
      refine (letter_x s[k] _).mono ?_
      rintro e w1 ⟨rfl, rfl⟩
      cases hl : Lx.isLetter s[k] with
      | true =>
        have hy := Lib.hid (hgo.out hlt (by simp [Lx.isWord, hl]))
        clear hl
        go_wp2
        go_round
        case rel => exact ⟨k + 1, by omega, by omega, rfl, hy.out⟩
        case measure => simp [intOf]; omega
      | false =>
        have Hl := Lib.hid hl
        clear hl
        go_wp2_with fail
        refine (digit_x s[k] _).mono ?_
        rintro e w1 ⟨rfl, rfl⟩
        cases hd : Lx.isDigit s[k] with
        | true =>
          have hy := Lib.hid (hgo.out hlt (by simp [Lx.isWord, hd]))
          clear hd
          go_wp2
          go_round
          case rel => exact ⟨k + 1, by omega, by omega, rfl, hy.out⟩
          case measure => simp [intOf]; omega
        | false =>
          have Hd := Lib.hid hd
          clear hd
          by_cases h95 : (s[k].toNat : Int) = 95
          · have hy := Lib.hid (hgo.out hlt (by simp only [Lx.isWord, (us_iff s[k]).2 h95]; simp))
            have hb5 : ((s[k].toNat : Int) == 95) = true := by simp [h95]
            clear h95
            go_wp2
            go_round
            case rel => exact ⟨k + 1, by omega, by omega, rfl, hy.out⟩
            case measure => simp [intOf]; omega
          · have hnw : Lx.isWord s[k] = false := by
              have : (s[k] == 95) = false := by
                cases hb : (s[k] == 95) with
                | false => rfl
                | true => exact absurd ((us_iff s[k]).1 hb) h95
              simp only [Lx.isWord, Hl.out, Hd.out, this]; rfl
            have hE := Lib.hid (hend.out (fun _ => hnw))
            have hb5 : ((s[k].toNat : Int) == 95) = false := by rw [beq_eq_false_iff_ne]; exact h95
            clear h95 hnw
            have hxs : (s.extract b k).size ≤ 1099511627776 := by rw [extract_mk, mk_size, List.length_take, List.length_drop, ← size_of]; omega
            have Hxs := Lib.hid hxs
            clear hxs
            go_wp2_with fail
            refine (Name_x (s.extract b k) _ Hxs.out).mono ?_
            rintro e w1 ⟨rfl, rfl⟩
            cases hv : Lx.okName (s.extract b k).data.toList with
            | true =>
              have hfin : Hid (Lx.tok s[b] (s.data.toList.drop (b + 1)) = .ok ((0, (s.extract b k).data.toList, 0), s.data.toList.drop k)) := by
                show _ = _
                rw [hT.out, hE.out.1, hE.out.2, hv]; rfl
              clear hv
              go_wp2
              exact bodyPost_ret (v := .tuple #[.agg #[.int .i64 0, .string (s.extract b k), .int .i64 0, .int .i64 b], .int .i64 k, .int .i64 0]) (by simp [results, Tryd.results28, go_sem]) rfl (tpost_ok hfin.out hk ((Below.refl _ _).alloc (Nat.le_refl _) _) _ _ _ _ rfl rfl rfl rfl)
            | false =>
              have hfin : Hid (Lx.tok s[b] (s.data.toList.drop (b + 1)) = .error Lx.eRange) := by
                show _ = _
                rw [hT.out, hE.out.1, hE.out.2, hv]; rfl
              clear hv
              go_wp2
              exact bodyPost_ret (v := .tuple #[.agg #[.int .i64 0, .string ⟨#[]⟩, .int .i64 0, .int .i64 0], .int .i64 0, .int .i64 3]) (by simp [results, Tryd.results28, go_sem]) rfl (tpost_err hfin.out ((Below.refl _ _).alloc (Nat.le_refl _) _) _ rfl)
    · have hE := Lib.hid (hend.out (fun h => absurd h hlt))
      have hxs : (s.extract b k).size ≤ 1099511627776 := by rw [extract_mk, mk_size, List.length_take, List.length_drop, ← size_of]; omega
      have Hxs := Lib.hid hxs
      clear hxs
      go_wp2_with fail
      refine (Name_x (s.extract b k) _ Hxs.out).mono ?_
      rintro e w1 ⟨rfl, rfl⟩
      cases hv : Lx.okName (s.extract b k).data.toList with
      | true =>
        have hfin : Hid (Lx.tok s[b] (s.data.toList.drop (b + 1)) = .ok ((0, (s.extract b k).data.toList, 0), s.data.toList.drop k)) := by
          show _ = _
          rw [hT.out, hE.out.1, hE.out.2, hv]; rfl
        clear hv
        go_wp2
        exact bodyPost_ret (v := .tuple #[.agg #[.int .i64 0, .string (s.extract b k), .int .i64 0, .int .i64 b], .int .i64 k, .int .i64 0]) (by simp [results, Tryd.results28, go_sem]) rfl (tpost_ok hfin.out hk ((Below.refl _ _).alloc (Nat.le_refl _) _) _ _ _ _ rfl rfl rfl rfl)
      | false =>
        have hfin : Hid (Lx.tok s[b] (s.data.toList.drop (b + 1)) = .error Lx.eRange) := by
          show _ = _
          rw [hT.out, hE.out.1, hE.out.2, hv]; rfl
        clear hv
        go_wp2
        exact bodyPost_ret (v := .tuple #[.agg #[.int .i64 0, .string ⟨#[]⟩, .int .i64 0, .int .i64 0], .int .i64 0, .int .i64 3]) (by simp [results, Tryd.results28, go_sem]) rfl (tpost_err hfin.out ((Below.refl _ _).alloc (Nat.le_refl _) _) _ rfl)

set_option maxHeartbeats 6400000 in
set_option maxRecDepth 100000 in
theorem token_num (s : ByteArray) (b : Nat) (w : World) (hs : s.size ≤ 1099511627776) (hb : b < s.size) (hl : Lx.isLetter s[b] = false) (hd0 : Lx.isDigit s[b] = true) :
    Calls Tryd.prog 28 #[.string s, .int .i64 (b : Int)] w fun e w' => TPost s b hb w e w' := by
  have hT := Lib.hid (tok_num (r := s.data.toList.drop (b + 1)) hl hd0)
  have Hl0 := Lib.hid hl
  have Hd0 := Lib.hid hd0
  clear hl hd0
  go_enter Tryd.func28, Tryd.ntmps28
  go_wp2_with fail
  refine (letter_x s[b] _).mono ?_
  rintro e w1 ⟨rfl, rfl⟩
  rw [Hl0.out]
  go_wp2_with fail
  refine (digit_x s[b] _).mono ?_
  rintro e w1 ⟨rfl, rfl⟩
  rw [Hd0.out]
  go_wp2_with fail
  go_loop [7] (fun i => ∃ k : Nat, b + 1 ≤ k ∧ k ≤ s.size ∧ i = .int .i64 k ∧ Run Lx.isDigit s b k) (fun i => s.size - (intOf i).toNat)
  case atStart => exact ⟨b + 1, Nat.le_refl _, hb, by go_num, run_start _ _ _⟩
  case round =>
    obtain ⟨k, hbk, hk, rfl, hr⟩ := hrel
    have Hr := Lib.hid hr
    clear hr
    have hgo := Lib.hid (fun (hlt : k < s.size) (hp : Lx.isDigit s[k] = true) => run_step Hr.out hbk hlt hp)
    have hend := Lib.hid (fun hp => run_done Hr.out hbk hk hb hp)
    by_cases hlt : k < s.size
    · go_wp2_with fail
      refine (digit_x s[k] _).mono ?_
      rintro e w1 ⟨rfl, rfl⟩
      cases hd : Lx.isDigit s[k] with
      | true =>
        have hy := Lib.hid (hgo.out hlt hd)
        clear hd
        go_wp2
        go_round
        case rel => exact ⟨k + 1, by omega, by omega, rfl, hy.out⟩
        case measure => simp [intOf]; omega
      | false =>
        have hE := Lib.hid (hend.out (fun _ => hd))
        clear hd
        have hxs : (s.extract b k).size ≤ 1099511627776 := by rw [extract_mk, mk_size, List.length_take, List.length_drop, ← size_of]; omega
        have Hxs := Lib.hid hxs
        clear hxs
        go_wp2_with fail
        refine (Number_x (s.extract b k) _ Hxs.out).mono ?_
        rintro e w1 ⟨rfl, rfl⟩
        cases hv : Lx.okNumber (s.extract b k).data.toList with
        | true =>
          have hfin : Hid (Lx.tok s[b] (s.data.toList.drop (b + 1)) = .ok ((1, (s.extract b k).data.toList, Lx.val (s.extract b k).data.toList), s.data.toList.drop k)) := by
            show _ = _
            rw [hT.out, hE.out.1, hE.out.2, hv]; rfl
          rw [numOk_yes hv]
          clear hv
          generalize Lx.val (s.extract b k).data.toList = nv at hfin ⊢
          go_wp2
          exact bodyPost_ret (v := .tuple #[.agg #[.int .i64 1, .string (s.extract b k), .int .i64 nv, .int .i64 b], .int .i64 k, .int .i64 0]) (by simp [results, Tryd.results28, go_sem]) rfl (tpost_ok hfin.out hk ((Below.refl _ _).alloc (Nat.le_refl _) _) _ _ _ _ rfl rfl rfl rfl)
        | false =>
          have hfin : Hid (Lx.tok s[b] (s.data.toList.drop (b + 1)) = .error Lx.eRange) := by
            show _ = _
            rw [hT.out, hE.out.1, hE.out.2, hv]; rfl
          rw [numOk_no hv]
          clear hv
          go_wp2
          exact bodyPost_ret (v := .tuple #[.agg #[.int .i64 0, .string ⟨#[]⟩, .int .i64 0, .int .i64 0], .int .i64 0, .int .i64 3]) (by simp [results, Tryd.results28, go_sem]) rfl (tpost_err hfin.out ((Below.refl _ _).alloc (Nat.le_refl _) _) _ rfl)
    · have hE := Lib.hid (hend.out (fun h => absurd h hlt))
      have hxs : (s.extract b k).size ≤ 1099511627776 := by rw [extract_mk, mk_size, List.length_take, List.length_drop, ← size_of]; omega
      have Hxs := Lib.hid hxs
      clear hxs
      go_wp2_with fail
      refine (Number_x (s.extract b k) _ Hxs.out).mono ?_
      rintro e w1 ⟨rfl, rfl⟩
      cases hv : Lx.okNumber (s.extract b k).data.toList with
      | true =>
        have hfin : Hid (Lx.tok s[b] (s.data.toList.drop (b + 1)) = .ok ((1, (s.extract b k).data.toList, Lx.val (s.extract b k).data.toList), s.data.toList.drop k)) := by
          show _ = _
          rw [hT.out, hE.out.1, hE.out.2, hv]; rfl
        rw [numOk_yes hv]
        clear hv
        generalize Lx.val (s.extract b k).data.toList = nv at hfin ⊢
        go_wp2
        exact bodyPost_ret (v := .tuple #[.agg #[.int .i64 1, .string (s.extract b k), .int .i64 nv, .int .i64 b], .int .i64 k, .int .i64 0]) (by simp [results, Tryd.results28, go_sem]) rfl (tpost_ok hfin.out hk ((Below.refl _ _).alloc (Nat.le_refl _) _) _ _ _ _ rfl rfl rfl rfl)
      | false =>
        have hfin : Hid (Lx.tok s[b] (s.data.toList.drop (b + 1)) = .error Lx.eRange) := by
          show _ = _
          rw [hT.out, hE.out.1, hE.out.2, hv]; rfl
        rw [numOk_no hv]
        clear hv
        go_wp2
        exact bodyPost_ret (v := .tuple #[.agg #[.int .i64 0, .string ⟨#[]⟩, .int .i64 0, .int .i64 0], .int .i64 0, .int .i64 3]) (by simp [results, Tryd.results28, go_sem]) rfl (tpost_err hfin.out ((Below.refl _ _).alloc (Nat.le_refl _) _) _ rfl)

theorem tok_quote {c : UInt8} {r : List UInt8} (h : c = 34) : Lx.tok c r = match Lx.unq r with
    | none => .error Lx.eQuote
    | some p => if Lx.okValue p.1 then .ok ((2, p.1, 0), p.2) else .error Lx.eQuote := by
  subst h
  unfold Lx.tok; rw [if_neg (by decide), if_neg (by decide), if_pos rfl]
  cases Lx.unq r <;> rfl
theorem tok_sign {c : UInt8} {r : List UInt8} (h1 : Lx.isLetter c = false) (h2 : Lx.isDigit c = false) (h : c ≠ 34) : Lx.tok c r = if Lx.isSign c then .ok ((3, [c], 0), r) else .error Lx.eToken := by
  unfold Lx.tok; rw [if_neg (by rw [h1]; simp), if_neg (by rw [h2]; simp), if_neg h]

set_option maxHeartbeats 3200000 in
set_option maxRecDepth 100000 in
theorem token_rest (s : ByteArray) (b : Nat) (w : World) (hs : s.size ≤ 1099511627776) (hb : b < s.size) (hl : Lx.isLetter s[b] = false) (hd0 : Lx.isDigit s[b] = false) :
    Calls Tryd.prog 28 #[.string s, .int .i64 (b : Int)] w fun e w' => TPost s b hb w e w' := by
  have Hl0 := Lib.hid hl
  have Hd0 := Lib.hid hd0
  clear hl hd0
  go_enter Tryd.func28, Tryd.ntmps28
  go_wp2_with fail
  refine (letter_x s[b] _).mono ?_
  rintro e w1 ⟨rfl, rfl⟩
  rw [Hl0.out]
  go_wp2_with fail
  refine (digit_x s[b] _).mono ?_
  rintro e w1 ⟨rfl, rfl⟩
  rw [Hd0.out]
  by_cases h34 : (s[b].toNat : Int) = 34
  · have hT := Lib.hid (tok_quote (r := s.data.toList.drop (b + 1)) (c34 h34))
    have hb3 : ((s[b].toNat : Int) == 34) = true := by simp [h34]
    clear h34
    go_wp2_with fail
    refine (quoted_x s b _ hs hb).mono ?_
    rintro e w1 ⟨rfl, rfl⟩
    cases hq : Lx.unq (s.data.toList.drop (b + 1)) with
    | none =>
      have hfin : Hid (Lx.tok s[b] (s.data.toList.drop (b + 1)) = .error Lx.eQuote) := by show _ = _; rw [hT.out, hq]
      clear hq
      simp only [quoR]
      go_wp2
      exact bodyPost_ret (v := .tuple #[.agg #[.int .i64 0, .string ⟨#[]⟩, .int .i64 0, .int .i64 0], .int .i64 0, .int .i64 21]) (by simp [results, Tryd.results28, go_sem]) rfl (tpost_err hfin.out ((Below.refl _ _).alloc (Nat.le_refl _) _) _ rfl)
    | some p =>
      obtain ⟨v, rest⟩ := p
      cases hv : Lx.okValue v with
      | false =>
        have hfin : Hid (Lx.tok s[b] (s.data.toList.drop (b + 1)) = .error Lx.eQuote) := by show _ = _; rw [hT.out, hq]; simp only; rw [hv]; rfl
        have hR : quoR s (some (v, rest)) = .tuple #[.string ⟨#[]⟩, .int .i64 0, .bool false] := by simp only [quoR]; rw [hv]; rfl
        rw [hR]
        clear hq hv hR
        go_wp2
        exact bodyPost_ret (v := .tuple #[.agg #[.int .i64 0, .string ⟨#[]⟩, .int .i64 0, .int .i64 0], .int .i64 0, .int .i64 21]) (by simp [results, Tryd.results28, go_sem]) rfl (tpost_err hfin.out ((Below.refl _ _).alloc (Nat.le_refl _) _) _ rfl)
      | true =>
        have hrl := Lx.unq_only (s.data.toList.drop (b + 1)).length _ v rest (Nat.le_refl _) hq
        have hrest : rest = s.data.toList.drop (s.size - rest.length) := by
          have h1 : (s.data.toList.drop (b + 1)).length = (Lx.esc v).length + 1 + rest.length := by rw [hrl]; simp; omega
          have h2 : (s.data.toList.drop (b + 1)).drop ((Lx.esc v).length + 1) = rest := by
            rw [hrl, show Lx.esc v ++ 34 :: rest = (Lx.esc v ++ [34]) ++ rest from by simp, show (Lx.esc v).length + 1 = (Lx.esc v ++ [34]).length from by simp, List.drop_left]
          rw [List.length_drop, ← size_of] at h1
          rw [List.drop_drop] at h2
          rw [show s.size - rest.length = b + 1 + ((Lx.esc v).length + 1) from by omega]
          exact h2.symm
        have hkle : s.size - rest.length ≤ s.size := by omega
        have hR : quoR s (some (v, rest)) = .tuple #[.string (mk v), .int .i64 ((s.size - rest.length : Nat) : Int), .bool true] := by simp only [quoR]; rw [hv]; rfl
        rw [hR]
        have hfin : Hid (Lx.tok s[b] (s.data.toList.drop (b + 1)) = .ok ((2, v, 0), s.data.toList.drop (s.size - rest.length))) := by
          show _ = _
          rw [hT.out, hq]; simp only; rw [hv, ← hrest]; rfl
        clear hq hv hR hrl hrest
        generalize s.size - rest.length = k at hfin hkle ⊢
        go_wp2
        exact bodyPost_ret (v := .tuple #[.agg #[.int .i64 2, .string (mk v), .int .i64 0, .int .i64 b], .int .i64 k, .int .i64 0]) (by simp [results, Tryd.results28, go_sem]) rfl (tpost_ok hfin.out hkle ((Below.refl _ _).alloc (Nat.le_refl _) _) _ _ _ _ rfl rfl rfl rfl)
  · have hT := Lib.hid (tok_sign (r := s.data.toList.drop (b + 1)) Hl0.out Hd0.out (n34 h34))
    have hb3 : ((s[b].toNat : Int) == 34) = false := by rw [beq_eq_false_iff_ne]; exact h34
    have hone := Lib.hid (one_byte s b hb)
    clear h34
    go_wp2_with fail
    refine (sign_x s[b] _).mono ?_
    rintro e w1 ⟨rfl, rfl⟩
    cases hsg : Lx.isSign s[b] with
    | true =>
      have hfin : Hid (Lx.tok s[b] (s.data.toList.drop (b + 1)) = .ok ((3, [s[b]], 0), s.data.toList.drop (b + 1))) := by show _ = _; rw [hT.out, hsg]; rfl
      clear hsg
      go_wp2
      exact bodyPost_ret (v := .tuple #[.agg #[.int .i64 3, .string (s.extract b (b + 1)), .int .i64 0, .int .i64 b], .int .i64 ((b : Int) + 1), .int .i64 0]) (by simp [results, Tryd.results28, go_sem]) rfl (tpost_ok hfin.out hb ((Below.refl _ _).alloc (Nat.le_refl _) _) _ _ _ _ rfl (by rw [hone.out]) rfl (by go_num))
    | false =>
      have hfin : Hid (Lx.tok s[b] (s.data.toList.drop (b + 1)) = .error Lx.eToken) := by show _ = _; rw [hT.out, hsg]; rfl
      clear hsg
      go_wp2
      exact bodyPost_ret (v := .tuple #[.agg #[.int .i64 0, .string ⟨#[]⟩, .int .i64 0, .int .i64 0], .int .i64 0, .int .i64 20]) (by simp [results, Tryd.results28, go_sem]) rfl (tpost_err hfin.out ((Below.refl _ _).alloc (Nat.le_refl _) _) _ rfl)

theorem token_x (s : ByteArray) (b : Nat) (w : World) (hs : s.size ≤ 1099511627776) (hb : b < s.size) :
    Calls Tryd.prog 28 #[.string s, .int .i64 (b : Int)] w fun e w' => TPost s b hb w e w' := by
  cases hl : Lx.isLetter s[b] with
  | true => exact token_name s b w hs hb hl
  | false =>
    cases hd : Lx.isDigit s[b] with
    | true => exact token_num s b w hs hb hl hd
    | false => exact token_rest s b w hs hb hl hd

end Go.Proofs.YtmpgbdibagnanaaDoor
