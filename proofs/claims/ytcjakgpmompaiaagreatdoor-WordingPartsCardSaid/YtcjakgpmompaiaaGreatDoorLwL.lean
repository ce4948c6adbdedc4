/-
  WordingParts: the law's own lines, and the lines of two parts of a bill (plain).
-/
import Derived.Test.YtcjakgpmompaiaaGreatDoorLwA
import Derived.Test.YtcjakgpmompaiaaGreatDoorWdV
import Derived.Test.YtcjakgpmompaiaaGreatDoorSaA
import Derived.Test.YtcjakgpmompaiaaGreatDoorWrO
namespace Go.Proofs.YtcjakgpmompaiaaGreatDoor
open Go.RowKit Rl Wd

def NoNl (x : L8) : Prop := ∀ c ∈ x, c ≠ 10
def fl (l : List L8) : L8 := l.flatMap (· ++ [10])
/-- lines, what has been read of the next one, and what is left -/
structure Lp (s : L8) (Y : List L8) (f k : Nat) : Prop where
  pre : s.take f = fl Y
  no : ∀ y ∈ Y, NoNl y
  mid : NoNl ((s.take k).drop f)
  len : Y.length ≤ f
theorem Lp.start (s : L8) : Lp s [] 0 0 := ⟨by simp [fl], fun y h => (by cases h), fun c h => (by simp at h), Nat.le_refl _⟩
theorem take_snoc {s : L8} {k : Nat} {b : UInt8} (hb : s[k]? = some b) {f : Nat} (hf : f ≤ k) : (s.take (k + 1)).drop f = (s.take k).drop f ++ [b] := by
  have hk := (List.getElem?_eq_some_iff.1 hb).1
  rw [List.take_add_one, hb, List.drop_append_of_le_length (by rw [List.length_take]; omega)]
  rfl
theorem Lp.on {s : L8} {Y : List L8} {f k : Nat} {b : UInt8} (h : Lp s Y f k) (hf : f ≤ k) (hb : s[k]? = some b) (hn : b ≠ 10) : Lp s Y f (k + 1) := by
  refine ⟨h.pre, h.no, ?_, h.len⟩
  rw [take_snoc hb hf]
  intro c hc
  rcases List.mem_append.1 hc with h1 | h1
  · exact h.mid c h1
  · simp only [List.mem_singleton] at h1
    rw [h1]
    exact hn
theorem Lp.line {s : L8} {Y : List L8} {f k : Nat} {b : UInt8} (h : Lp s Y f k) (hf : f ≤ k) (hb : s[k]? = some b) (hn : b = 10) : Lp s (Y ++ [(s.take k).drop f]) (k + 1) (k + 1) := by
  subst hn
  refine ⟨?_, ?_, ?_, ?_⟩
  · have e : s.take (k + 1) = s.take f ++ (s.take (k + 1)).drop f := by
      have := List.take_append_drop f (s.take (k + 1))
      rw [List.take_take, Nat.min_eq_left (by omega)] at this
      exact this.symm
    rw [e, take_snoc hb hf, h.pre]
    unfold fl
    rw [List.flatMap_append, List.flatMap_cons, List.flatMap_nil, List.append_nil]
  · intro y hy
    rcases List.mem_append.1 hy with h1 | h1
    · exact h.no y h1
    · simp only [List.mem_singleton] at h1
      rw [h1]
      exact h.mid
  · rw [List.drop_eq_nil_of_le (by rw [List.length_take]; omega)]
    intro c hc
    cases hc
  · rw [List.length_append, List.length_singleton]
    have := h.len
    omega
/-- two splittings of a text are one -/
theorem fl_inj : ∀ {A B : List L8} {r : L8}, (∀ y ∈ A, NoNl y) → (∀ y ∈ B, NoNl y) → NoNl r → fl A ++ r = fl B → A = B
  | [], [], _, _, _, _, _ => rfl
  | [], y :: B, r, _, _, hr, e => by
    have : (10 : UInt8) ∈ r := by
      have e2 : r = fl (y :: B) := by simpa [fl] using e
      rw [e2]
      simp [fl]
    exact absurd rfl (hr 10 this)
  | x :: A, [], r, _, _, _, e => by
    have : (fl (x :: A) ++ r).length = 0 := by rw [e]; rfl
    simp [fl] at this
  | x :: A, y :: B, r, ha, hb, hr, e => by
    have e2 : x ++ 10 :: (fl A ++ r) = y ++ 10 :: fl B := by simpa [fl, List.append_assoc] using e
    have h1 := lineR_P (x ++ 10 :: (fl A ++ r)) x _ (ha x (by simp)) rfl
    have h2 := lineR_P (x ++ 10 :: (fl A ++ r)) y _ (hb y (by simp)) e2
    have e3 : fl A ++ r = fl B := h1.symm.trans h2
    have ih := fl_inj (fun z hz => ha z (by simp [hz])) (fun z hz => hb z (by simp [hz])) hr e3
    rw [e3] at e2
    rw [ih, List.append_cancel_right e2]
theorem fl_eq {A B : List L8} {r : L8} (h1 : ∀ y ∈ A, NoNl y) (h2 : ∀ y ∈ B, NoNl y) (h3 : NoNl r) (e : fl A ++ r = fl B) : A = B := fl_inj h1 h2 h3 e
/-- the lines at the end of the text -/
theorem Lp.all {s : L8} {Y ls : List L8} {f : Nat} (h : Lp s Y f s.length) (hl : ∀ y ∈ ls, NoNl y) (e : s = fl ls) : Y = ls := by
  refine fl_eq (r := s.drop f) h.no hl ?_ ?_
  · have := h.mid
    rw [List.take_of_length_le (Nat.le_refl _)] at this
    exact this
  · rw [← h.pre, List.take_append_drop]
    exact e
def LnRel (s : B) (base : Nat) (W : World) (v fr i : Value) (wr : World) : Prop := ∃ (Y : List B) (f k : Nat) (la : Option Addr) (lc : Nat), f ≤ k ∧ k ≤ s.size ∧ v = .slice la Y.length lc ∧ fr = .int .i64 (f : Int) ∧ i = .int .i64 (k : Int) ∧ wr.ownsRow base 9 1 (.slice la Y.length lc) Y.length (strs Y) ∧ Lp s.data.toList (Y.map (fun x => x.data.toList)) f k ∧ Below base W wr
/-- what the lines of a text are -/
def LinesIn (s : B) (w : World) (v : Value) : Prop := ∃ (Y : List B) (a : Option Addr) (c f : Nat), v = .slice a Y.length c ∧ Y.length ≤ c ∧ SAt w v Y ∧ Y.length ≤ s.size ∧ Lp s.data.toList (Y.map (fun x => x.data.toList)) f s.data.toList.length
theorem ext_mid (s : B) (f k : Nat) : (s.extract f k).data.toList = (s.data.toList.take k).drop f := ext_list s f k

set_option maxHeartbeats 3200000 in
set_option maxRecDepth 100000 in
theorem lines_x (s : B) (w : World) (hs : s.size ≤ 100000) :
    Calls Tryz.prog 18 #[.string s] w fun r w' => (∃ v, r = .returned v ∧ LinesIn s w' v) ∧ Below w.heap.size w w' := by
  obtain ⟨rj, hj, hy0, hy1, hy2⟩ := info_parts infoS
  have Hj := Lib.hid hj
  have Hy0 := Lib.hid hy0
  have Hy1 := Lib.hid hy1
  have Hy2 := Lib.hid hy2
  clear hj hy0 hy1 hy2
  have B0 := Lib.hid (Below.new1 (w := w) (.cells #[] 9))
  have Z0 : Hid (w.heap.size ≤ (w.alloc (.cells #[] 9)).heap.size) := B0.out.size
  go_enter Tryz.func18, Tryz.ntmps18
  go_wp2_with fail
  go_loopw [3, 4, 5] (fun v fr i wr => LnRel s w.heap.size (w.alloc (.cells #[] 9)) v fr i wr) (fun _ _ i _ => s.size - (intOf i).toNat)
  case atStart => exact ⟨[], 0, 0, some ⟨w.heap.size, 0, none⟩, 0, Nat.le_refl _, Nat.zero_le _, rfl, rfl, rfl, own_new (l := []) (heap_alloc_new _ _) (Nat.le_refl _) rfl (Nat.zero_le _), Lp.start _, Below.refl _ _⟩
  case round =>
    obtain ⟨Y, f, k, la, lc, hfk, hk, rfl, rfl, rfl, hown, hlp, hbw⟩ := hrel
    have HO := Lib.hid hown
    have HP := Lib.hid hlp
    have HB := Lib.hid hbw
    have HYL := Lib.hid hlp.len
    have ylen : Y.length ≤ f := by have := HYL.out; rwa [List.length_map] at this
    clear hown hlp hbw
    by_cases hz : k < s.size
    case neg =>
      have hzi : decide ((k : Int) < (s.size : Int)) = false := decide_eq_false (by omega)
      obtain rfl : k = s.size := by omega
      go_wp2_with fail
      go_ret
      exact ⟨⟨_, rfl, Y, la, lc, f, rfl, own_cap HO.out, own_str HO.out rfl, by omega, by rw [← size_list]; exact HP.out⟩, B0.out.trans (HB.out.mono (Nat.le_refl _))⟩
    case pos =>
      have hzi : decide ((k : Int) < (s.size : Int)) = true := decide_eq_true (by omega)
      have hzj : (k : Int) < (s.size : Int) := by omega
      have hfi : (f : Int) ≤ (k : Int) := by omega
      have hkj : (k : Int) ≤ (s.size : Int) := by omega
      obtain ⟨b, hb0⟩ : ∃ b : UInt8, s[k]'hz = b := ⟨_, rfl⟩
      have hbl : s.data.toList[k]? = some b := by rw [← hb0]; exact Lib.data_getElem? s k hz
      have Hb := Lib.hid hbl
      clear hbl
      by_cases h1 : b.toNat = 10
      case neg =>
        have u1 : ((b.toNat : Int) == (10 : Int)) = false := by exact beq_eq_false_iff_ne.2 (by omega)
        have hp2 := Lib.hid (HP.out.on hfk Hb.out (fun e => h1 (by rw [e]; rfl)))
        clear h1
        go_wp2
        go_roundw
        case measure => simp [intOf]; omega
        case rel => exact ⟨Y, f, k + 1, la, lc, by omega, by omega, rfl, rfl, by go_num, HO.out, hp2.out, HB.out⟩
      case pos =>
        have u1 : (b.toNat : Int) = (10 : Int) := by omega
        have hp2 := Lib.hid (HP.out.line hfk Hb.out (UInt8.toNat_inj.1 h1))
        clear h1
        go_wp2_with (at_builtin; refine wpList_append_own _ rfl (.tmp 17) (.tmp 22) 22 rfl (w.heap.size) 9 rj (.string ⟨#[]⟩) 1 16 Tryz.underlying22 Hj.out Hy0.out Hy1.out Hy2.out rfl (by decide) _ Y.length (strs Y) rfl ((HO.out).alloc _) ⟨(wr).heap.size, 0, none⟩ 1 1 [.string (s.extract f k)] rfl rfl ?f1 ?f2 ?f3 ?f4 ?f5 ?_)
        case f1 => exact cell_new1 _ _ _ _ (by first | rfl | simp)
        case f2 => first | rfl | (intro u hu; simp at hu; subst hu; rfl)
        case f3 => unfold maxLen; omega
        case f4 => omega
        case f5 => have := HB.out.size; have h0 := Z0.out; simp at this h0 ⊢; omega
        intro v7 w7 hown7 hgrow7 _
        have hrow : ∀ j, (Value.slice la Y.length lc).ownBlock = some j → w.heap.size ≤ j := fun j hj => (HO.out.lt j hj).1
        have B7 : Hid (Below w.heap.size (w.alloc (.cells #[] 9)) w7) := (HB.out.alloc (Nat.le_trans Z0.out HB.out.size) _).grown hgrow7 (by have := HB.out.size; have h0 := Z0.out; simp at this h0 ⊢; omega) (fun j hj => hrow j hj)
        have HO7 : Hid (w7.ownsRow w.heap.size 9 1 v7 (Y.length + 1) (strs (Y ++ [s.extract f k]))) := by
          show w7.ownsRow _ _ _ _ _ _
          rw [strs_app]
          exact hown7
        have hl7 : Y.length + 1 = (Y ++ [s.extract f k]).length := by rw [List.length_append]; rfl
        obtain ⟨la7, lc7, e7⟩ := (own_str HO7.out hl7).shape
        rw [← hl7] at e7
        subst e7
        have HL7 := Lib.hid hl7
        have HP7 : Hid (Lp s.data.toList ((Y ++ [s.extract f k]).map (fun x => x.data.toList)) (k + 1) (k + 1)) := by
          show Lp _ _ _ _
          rw [List.map_append, List.map_cons, List.map_nil, ext_mid]
          exact hp2.out
        clear hown7 hgrow7 hrow hl7
        go_wp2_with fail
        go_roundw
        case rel => exact ⟨Y ++ [s.extract f k], k + 1, k + 1, la7, lc7, by omega, by omega, by rw [← HL7.out], by go_num, by go_num, by rw [← HL7.out]; exact HO7.out, HP7.out, B7.out⟩
        case measure => simp [intOf]; omega
end Go.Proofs.YtcjakgpmompaiaaGreatDoor

/-
  The lines of two parts of a bill (plain).
-/
namespace Go.Proofs.YtcjakgpmompaiaaGreatDoor
open Go.RowKit Rl Wd

theorem date_no (m : Int) : NoNl (dateB m) := app_no (dec_no _) (cons_no (by decide) (app_no (dec_no _) (cons_no (by decide) (dec_no _))))
theorem lines_no {R : Rlm} {b : Bl} (h : Rt R b) (p : Int) : ∀ y ∈ linesW R b p, NoNl y := by
  have nf : ∀ {n : Int}, ix n R.firms.length = true → NoNl (firmN R n) := fun hn => wy_no (firm_facts h.realm hn).1
  have nc : ∀ {n : Int}, ix n R.cities.length = true → NoNl (cityN R n) := fun hn => wy_no (city_facts h.realm hn).1
  have nu : NoNl (curN R b.cur) := wy_no (cur_facts h.realm h.cur).1
  have nt : NoNl (titleB b.flags) := by unfold titleB; split <;> exact lit_no (by decide)
  intro y hy
  unfold linesW at hy
  simp only [List.mem_append, List.mem_cons, List.not_mem_nil, or_false] at hy
  rcases hy with (((hy | hy) | hy) | hy) | hy
  · rcases hy with rfl | rfl | rfl | rfl | rfl | rfl
    · exact app_no nt (cons_no (by decide) (app_no (app_no (dec_no _) (lit_no (by decide))) (dec_no _)))
    · exact app_no (app_no (app_no (lit_no (by decide)) (nc h.city)) (lit_no (by decide))) (date_no _)
    · exact app_no (lit_no (by decide)) (term_no _ _ _)
    · exact app_no (lit_no (by decide)) (pay_no h.realm h.payee)
    · exact app_no (dec_no _) (cons_no (by decide) (app_no nu (int_no _)))
    · exact app_no (app_no (app_no (lit_no (by decide)) (nf h.drawee)) (lit_no (by decide))) (nc h.pay)
  · split at hy
    · simp only [List.mem_cons, List.not_mem_nil, or_false] at hy
      subst hy
      rw [List.append_assoc]
      exact app_no (lit_no (by decide)) oth_no
    · cases hy
  · split at hy
    · cases hy
    · rename_i e
      simp only [List.mem_cons, List.not_mem_nil, or_false] at hy
      subst hy
      exact app_no (lit_no (by decide)) (nf (h.need.resolve_left e))
  · split at hy
    · simp only [List.mem_cons, List.not_mem_nil, or_false] at hy
      subst hy
      exact lit_no (by decide)
    · cases hy
  · subst hy
    exact app_no (lit_no (by decide)) (nf h.drawer)
theorem lines_len (R : Rlm) (b : Bl) (i j : Int) : (linesW R b i).length = (linesW R b j).length := by
  unfold linesW
  by_cases c1 : 1 < b.parts <;> by_cases c2 : b.need = -1 <;> by_cases c3 : bit b.flags 2 = true <;> simp [c1, c2, c3]
theorem lines_seven (R : Rlm) (b : Bl) (i : Int) : 7 ≤ (linesW R b i).length := by
  unfold linesW
  simp only [List.length_append, List.length_cons, List.length_nil]
  omega
theorem lines_split (R : Rlm) {b : Bl} (h : 1 < b.parts) : ∃ M E : List L8, M.length = 5 ∧ ∀ p : Int, linesW R b p = (titleB b.flags ++ 32 :: (dec (p + 1) ++ tOf ++ dec b.parts)) :: (M ++ (tUnless ++ othB b.parts p ++ tWas) :: E) := by
  refine ⟨[tDrawn ++ cityN R b.city ++ tOn ++ dateB b.day, tPay ++ termB b.tk b.tn b.tu, tTo ++ payB R b.payee b.flags, dec b.sum ++ 32 :: (curN R b.cur ++ intB b.rate), tBy ++ firmN R b.drawee ++ tIn ++ cityN R b.pay],
    (if b.need = -1 then [] else [tNeed ++ firmN R b.need]) ++ (if bit b.flags 2 = true then [tWithout] else []) ++ [tSigned ++ firmN R b.drawer], rfl, fun p => ?_⟩
  unfold linesW
  rw [if_pos h]
  simp only [List.append_assoc, List.cons_append, List.nil_append]
theorem dec_inj {i j : Int} (hi : 0 ≤ i) (hj : 0 ≤ j) (h : dec i = dec j) : i = j := by
  have h1 := congrArg (val 0) h
  unfold dec at h1
  rw [val_decD, val_decD] at h1
  omega
theorem d_3 : dec 3 = [51] := by
  show Lib.decDigits 3 = _
  rw [decD_small (by decide)]
  rfl
theorem d_4 : dec 4 = [52] := by
  show Lib.decDigits 4 = _
  rw [decD_small (by decide)]
  rfl
theorem o20 : othB 2 0 = [50] := by unfold othB; rw [show othN 2 0 = [dec 2] from rfl, d_2]; rfl
theorem o21 : othB 2 1 = [49] := by unfold othB; rw [show othN 2 1 = [dec 1] from rfl, d_1]; rfl
theorem o30 : othB 3 0 = [50, 32, 111, 114, 32, 51] := by unfold othB; rw [show othN 3 0 = [dec 2, dec 3] from rfl, d_2, d_3]; rfl
theorem o31 : othB 3 1 = [49, 32, 111, 114, 32, 51] := by unfold othB; rw [show othN 3 1 = [dec 1, dec 3] from rfl, d_1, d_3]; rfl
theorem o32 : othB 3 2 = [49, 32, 111, 114, 32, 50] := by unfold othB; rw [show othN 3 2 = [dec 1, dec 2] from rfl, d_1, d_2]; rfl
theorem o40 : othB 4 0 = [50, 32, 111, 114, 32, 51, 32, 111, 114, 32, 52] := by unfold othB; rw [show othN 4 0 = [dec 2, dec 3, dec 4] from rfl, d_2, d_3, d_4]; rfl
theorem o41 : othB 4 1 = [49, 32, 111, 114, 32, 51, 32, 111, 114, 32, 52] := by unfold othB; rw [show othN 4 1 = [dec 1, dec 3, dec 4] from rfl, d_1, d_3, d_4]; rfl
theorem o42 : othB 4 2 = [49, 32, 111, 114, 32, 50, 32, 111, 114, 32, 52] := by unfold othB; rw [show othN 4 2 = [dec 1, dec 2, dec 4] from rfl, d_1, d_2, d_4]; rfl
theorem o43 : othB 4 3 = [49, 32, 111, 114, 32, 50, 32, 111, 114, 32, 51] := by unfold othB; rw [show othN 4 3 = [dec 1, dec 2, dec 3] from rfl, d_1, d_2, d_3]; rfl
theorem oth_inj {N i j : Int} (h1 : 1 < N) (h4 : N ≤ 4) (hi : 0 ≤ i) (hi2 : i < N) (hj : 0 ≤ j) (hj2 : j < N) (h : othB N i = othB N j) : i = j := by
  have hN : N = 2 ∨ N = 3 ∨ N = 4 := by omega
  rcases hN with rfl | rfl | rfl
  · have ci : i = 0 ∨ i = 1 := by omega
    have cj : j = 0 ∨ j = 1 := by omega
    rcases ci with rfl | rfl <;> rcases cj with rfl | rfl <;> first | rfl | (simp only [o20, o21] at h; exact absurd h (by decide))
  · have ci : i = 0 ∨ i = 1 ∨ i = 2 := by omega
    have cj : j = 0 ∨ j = 1 ∨ j = 2 := by omega
    rcases ci with rfl | rfl | rfl <;> rcases cj with rfl | rfl | rfl <;> first | rfl | (simp only [o30, o31, o32] at h; exact absurd h (by decide))
  · have ci : i = 0 ∨ i = 1 ∨ i = 2 ∨ i = 3 := by omega
    have cj : j = 0 ∨ j = 1 ∨ j = 2 ∨ j = 3 := by omega
    rcases ci with rfl | rfl | rfl | rfl <;> rcases cj with rfl | rfl | rfl | rfl <;> first | rfl | (simp only [o40, o41, o42, o43] at h; exact absurd h (by decide))
/-- in which lines two parts differ -/
theorem lines_differ {R : Rlm} {b : Bl} (hR : Rt R b) {i j : Int} (hi : 0 ≤ i) (hi2 : i < b.parts) (hj : 0 ≤ j) (hj2 : j < b.parts) (n : Nat) (x y : L8) (hx : (linesW R b i)[n]? = some x) (hy : (linesW R b j)[n]? = some y) :
    x = y ↔ ¬ (i ≠ j ∧ (n = 0 ∨ n = 6)) := by
  by_cases e : i = j
  · subst e
    rw [hx] at hy
    simp only [Option.some.injEq] at hy
    exact ⟨fun _ h => h.1 rfl, fun _ => hy⟩
  · obtain ⟨M, E, hM, hs⟩ := lines_split R (b := b) (by omega)
    have h4 := hR.parts.2
    rw [hs i] at hx
    rw [hs j] at hy
    match n, hx, hy with
    | 0, hx, hy =>
      simp only [List.getElem?_cons_zero, Option.some.injEq] at hx hy
      refine ⟨fun h => ?_, fun h => absurd ⟨e, .inl rfl⟩ h⟩
      exfalso
      rw [← hx, ← hy] at h
      have h2 := List.append_cancel_left h
      simp only [List.cons.injEq, true_and, List.append_assoc] at h2
      have h3 := dec_inj (by omega) (by omega) (List.append_cancel_right h2)
      omega
    | n + 1, hx, hy =>
      rw [List.getElem?_cons_succ] at hx hy
      by_cases c : n < 5
      · rw [List.getElem?_append_left (by omega)] at hx hy
        rw [hx] at hy
        simp only [Option.some.injEq] at hy
        exact ⟨fun _ h => by omega, fun _ => hy⟩
      · rw [List.getElem?_append_right (by omega), hM] at hx hy
        by_cases c5 : n = 5
        · subst c5
          simp only [Nat.sub_self, List.getElem?_cons_zero, Option.some.injEq] at hx hy
          refine ⟨fun h => ?_, fun h => absurd ⟨e, .inr rfl⟩ h⟩
          exfalso
          rw [← hx, ← hy] at h
          have h2 := List.append_cancel_right h
          have h3 := List.append_cancel_left h2
          exact e (oth_inj (by omega) h4 hi hi2 hj hj2 h3)
        · obtain ⟨m, hm⟩ : ∃ m, n - 5 = m + 1 := ⟨n - 6, by omega⟩
          rw [hm, List.getElem?_cons_succ] at hx hy
          rw [hx] at hy
          simp only [Option.some.injEq] at hy
          exact ⟨fun _ h => by omega, fun _ => hy⟩
/-- the lines of a wording in memory -/
theorem lines_of {R : Rlm} {b : Bl} {p : Int} {s : B} {Y : List B} {f : Nat} (hR : Rt R b) (hs : s = mkB (wordW R b p)) (h : Lp s.data.toList (Y.map (fun x => x.data.toList)) f s.data.toList.length) : Y.map (fun x => x.data.toList) = linesW R b p :=
  h.all (lines_no hR p) (by rw [hs]; rfl)
theorem alike_parts {R : Rlm} {b : Bl} {i j : Int} (hi : Has R b i) (hj : Has R b j) : alikeP R (mkB (wordW R b i)) (mkB (wordW R b j)) = true := by
  unfold alikeP
  rw [parse_yes (uniq_all _ _) ⟨hi, rfl⟩, parse_yes (uniq_all _ _) ⟨hj, rfl⟩]
  simp
theorem alike_other {R : Rlm} {b o : Bl} {i : Int} (hi : Has R b i) : alikeP R (mkB (wordW R b i)) (textP R o 0) = decide (o = b) := by
  unfold alikeP
  rw [parse_yes (uniq_all _ _) ⟨hi, rfl⟩]
  by_cases ho : Has R o 0
  · rw [textP_yes ho, parse_yes (uniq_all _ _) ⟨ho, rfl⟩]
    by_cases e : o = b
    · subst e; simp
    · rw [decide_eq_false e]
      simp only [decide_eq_false_iff_not]
      exact fun h => e h.symm
  · have hno : parseP R ByteArray.empty = none := parse_no (fun b' p' h => absurd h.eq (fun e => word_ne R b' p' (mkB_inj (a := []) e).symm))
    rw [textP_no ho, hno]
    refine (decide_eq_false fun e => ho ?_).symm
    subst e
    exact ⟨hi.ok, Int.le_refl _, by have := hi.lo; have := hi.hi; omega⟩
end Go.Proofs.YtcjakgpmompaiaaGreatDoor

/-
  The operations of the law's great condition, each written out.
-/
namespace Go.Proofs.YtcjakgpmompaiaaGreatDoor
open Go.RowKit Rl Wd

noncomputable def paOps : Array Oper := match Tryz.f6.body with | some c => (regOps 10 c).getD #[] | none => #[]
theorem po_0 : paOps[0]? = some ({ dst := some 58, op := Op.load 31 (Operand.tmp 5), type := 31, pos := "law.go:98", after := #[], guard := none } : Oper) := by kernel_rfl
theorem po_1 : paOps[1]? = some ({ dst := some 59, op := Op.move (Operand.tmp 14), type := 9, pos := "law.go:98", after := #[], guard := none } : Oper) := by kernel_rfl
theorem po_2 : paOps[2]? = some ({ dst := some 60, op := Op.move (Operand.tmp 15), type := 9, pos := "law.go:98", after := #[], guard := none } : Oper) := by kernel_rfl
theorem po_3 : paOps[3]? = some ({ dst := some 61, op := Op.call { callee := Callee.value (Operand.func 16), args := #[Operand.tmp 58, Operand.tmp 59, Operand.tmp 60], argTypes := #[31, 9, 9] }, type := 4, pos := "law.go:98", after := #[{ on := 0, ground := Ground.data }, { on := 1, ground := Ground.data }, { on := 2, ground := Ground.data }], guard := none } : Oper) := by kernel_rfl
theorem po_4 : paOps[4]? = some ({ dst := some 62, op := Op.unOp UnOp.not 4 (Operand.tmp 61), type := 4, pos := "law.go:98", after := #[{ on := 3, ground := Ground.data }], guard := none } : Oper) := by kernel_rfl
theorem po_5 : paOps[5]? = some ({ dst := some 63, op := Op.move (Operand.tmp 62), type := 4, pos := "law.go:98", after := #[{ on := 4, ground := Ground.data }, { on := 3, ground := Ground.chain }], guard := none } : Oper) := by kernel_rfl
theorem po_6 : paOps[6]? = some ({ dst := some 64, op := Op.move (Operand.tmp 16), type := 22, pos := "law.go:98", after := #[{ on := 5, ground := Ground.guard }], guard := some (5, false) } : Oper) := by kernel_rfl
theorem po_7 : paOps[7]? = some ({ dst := some 65, op := Op.call { callee := Callee.builtin Builtin.len, args := #[Operand.tmp 64], argTypes := #[22] }, type := 3, pos := "law.go:98", after := #[{ on := 6, ground := Ground.data }, { on := 5, ground := Ground.guard }], guard := some (5, false) } : Oper) := by kernel_rfl
theorem po_8 : paOps[8]? = some ({ dst := some 66, op := Op.move (Operand.tmp 17), type := 22, pos := "law.go:98", after := #[{ on := 5, ground := Ground.guard }], guard := some (5, false) } : Oper) := by kernel_rfl
theorem po_9 : paOps[9]? = some ({ dst := some 67, op := Op.call { callee := Callee.builtin Builtin.len, args := #[Operand.tmp 66], argTypes := #[22] }, type := 3, pos := "law.go:98", after := #[{ on := 8, ground := Ground.data }, { on := 5, ground := Ground.guard }], guard := some (5, false) } : Oper) := by kernel_rfl
theorem po_10 : paOps[10]? = some ({ dst := some 68, op := Op.binOp BinOp.neq 3 (Operand.tmp 65) (Operand.tmp 67) 3, type := 4, pos := "law.go:98", after := #[{ on := 7, ground := Ground.data }, { on := 9, ground := Ground.data }, { on := 5, ground := Ground.guard }], guard := some (5, false) } : Oper) := by kernel_rfl
theorem po_11 : paOps[11]? = some ({ dst := some 69, op := Op.pick (Operand.tmp 63) (Operand.const (Value.bool true)) (Operand.tmp 68), type := 4, pos := "law.go:98", after := #[{ on := 5, ground := Ground.data }, { on := 10, ground := Ground.data }], guard := none } : Oper) := by kernel_rfl
theorem po_12 : paOps[12]? = some ({ dst := some 70, op := Op.move (Operand.tmp 69), type := 4, pos := "law.go:98", after := #[{ on := 11, ground := Ground.data }, { on := 5, ground := Ground.chain }], guard := none } : Oper) := by kernel_rfl
theorem po_13 : paOps[13]? = some ({ dst := some 71, op := Op.move (Operand.tmp 16), type := 22, pos := "law.go:98", after := #[{ on := 12, ground := Ground.guard }], guard := some (12, false) } : Oper) := by kernel_rfl
theorem po_14 : paOps[14]? = some ({ dst := some 72, op := Op.call { callee := Callee.builtin Builtin.len, args := #[Operand.tmp 71], argTypes := #[22] }, type := 3, pos := "law.go:98", after := #[{ on := 13, ground := Ground.data }, { on := 12, ground := Ground.guard }], guard := some (12, false) } : Oper) := by kernel_rfl
theorem po_15 : paOps[15]? = some ({ dst := some 73, op := Op.binOp BinOp.lss 3 (Operand.tmp 72) (Operand.const (Value.int IntKind.i64 7)) 3, type := 4, pos := "law.go:98", after := #[{ on := 14, ground := Ground.data }, { on := 12, ground := Ground.guard }], guard := some (12, false) } : Oper) := by kernel_rfl
theorem po_16 : paOps[16]? = some ({ dst := some 74, op := Op.pick (Operand.tmp 70) (Operand.const (Value.bool true)) (Operand.tmp 73), type := 4, pos := "law.go:98", after := #[{ on := 12, ground := Ground.data }, { on := 15, ground := Ground.data }], guard := none } : Oper) := by kernel_rfl
theorem po_17 : paOps[17]? = some ({ dst := some 75, op := Op.move (Operand.tmp 74), type := 4, pos := "law.go:98", after := #[{ on := 16, ground := Ground.data }, { on := 12, ground := Ground.chain }], guard := none } : Oper) := by kernel_rfl
theorem po_18 : paOps[18]? = some ({ dst := some 76, op := Op.load 31 (Operand.tmp 5), type := 31, pos := "law.go:98", after := #[{ on := 17, ground := Ground.guard }], guard := some (17, false) } : Oper) := by kernel_rfl
theorem po_19 : paOps[19]? = some ({ dst := some 77, op := Op.move (Operand.tmp 14), type := 9, pos := "law.go:98", after := #[{ on := 17, ground := Ground.guard }], guard := some (17, false) } : Oper) := by kernel_rfl
theorem po_20 : paOps[20]? = some ({ dst := some 78, op := Op.load 31 (Operand.tmp 5), type := 31, pos := "law.go:98", after := #[{ on := 17, ground := Ground.guard }], guard := some (17, false) } : Oper) := by kernel_rfl
theorem po_21 : paOps[21]? = some ({ dst := some 79, op := Op.load 35 (Operand.tmp 9), type := 35, pos := "law.go:98", after := #[{ on := 17, ground := Ground.guard }], guard := some (17, false) } : Oper) := by kernel_rfl
theorem po_22 : paOps[22]? = some ({ dst := some 80, op := Op.call { callee := Callee.value (Operand.func 14), args := #[Operand.tmp 78, Operand.tmp 79, Operand.const (Value.int IntKind.i64 0)], argTypes := #[31, 35, 3] }, type := 9, pos := "law.go:98", after := #[{ on := 20, ground := Ground.data }, { on := 21, ground := Ground.data }, { on := 17, ground := Ground.chain }, { on := 17, ground := Ground.guard }], guard := some (17, false) } : Oper) := by kernel_rfl
theorem po_23 : paOps[23]? = some ({ dst := some 81, op := Op.call { callee := Callee.value (Operand.func 16), args := #[Operand.tmp 76, Operand.tmp 77, Operand.tmp 80], argTypes := #[31, 9, 9] }, type := 4, pos := "law.go:98", after := #[{ on := 18, ground := Ground.data }, { on := 19, ground := Ground.data }, { on := 22, ground := Ground.data }, { on := 22, ground := Ground.chain }, { on := 17, ground := Ground.guard }], guard := some (17, false) } : Oper) := by kernel_rfl
theorem po_24 : paOps[24]? = some ({ dst := some 82, op := Op.load 35 (Operand.tmp 9), type := 35, pos := "law.go:98", after := #[{ on := 17, ground := Ground.guard }], guard := some (17, false) } : Oper) := by kernel_rfl
theorem po_25 : paOps[25]? = some ({ dst := some 83, op := Op.load 35 (Operand.tmp 6), type := 35, pos := "law.go:98", after := #[{ on := 17, ground := Ground.guard }], guard := some (17, false) } : Oper) := by kernel_rfl
theorem po_26 : paOps[26]? = some ({ dst := some 84, op := Op.binOp BinOp.eql 35 (Operand.tmp 82) (Operand.tmp 83) 35, type := 4, pos := "law.go:98", after := #[{ on := 24, ground := Ground.data }, { on := 25, ground := Ground.data }, { on := 17, ground := Ground.guard }], guard := some (17, false) } : Oper) := by kernel_rfl
theorem po_27 : paOps[27]? = some ({ dst := some 85, op := Op.binOp BinOp.neq 4 (Operand.tmp 81) (Operand.tmp 84) 4, type := 4, pos := "law.go:98", after := #[{ on := 23, ground := Ground.data }, { on := 26, ground := Ground.data }, { on := 17, ground := Ground.guard }], guard := some (17, false) } : Oper) := by kernel_rfl
theorem po_28 : paOps[28]? = some ({ dst := some 86, op := Op.pick (Operand.tmp 75) (Operand.const (Value.bool true)) (Operand.tmp 85), type := 4, pos := "law.go:98", after := #[{ on := 17, ground := Ground.data }, { on := 27, ground := Ground.data }], guard := none } : Oper) := by kernel_rfl
theorem po_none : Region.noSelect paOps = true := by kernel_rfl
theorem bl_ifs {T : Type} (o b : Bl) (x y : T) : (if o.drawer = b.drawer then (if o.drawee = b.drawee then (if o.payee = b.payee then (if o.sum = b.sum then (if o.cur = b.cur then (if o.tk = b.tk then (if o.tn = b.tn then (if o.tu = b.tu then (if o.day = b.day then (if o.city = b.city then (if o.pay = b.pay then (if o.need = b.need then (if o.rate = b.rate then (if o.flags = b.flags then (if o.parts = b.parts then x else y) else y) else y) else y) else y) else y) else y) else y) else y) else y) else y) else y) else y) else y) else y) = if o = b then x else y := by
  by_cases e : o = b
  · subst e
    simp only [if_true]
  · rw [if_neg e]
    by_cases h0 : o.drawer = b.drawer
    case neg => rw [if_neg h0]
    rw [if_pos h0]
    by_cases h1 : o.drawee = b.drawee
    case neg => rw [if_neg h1]
    rw [if_pos h1]
    by_cases h2 : o.payee = b.payee
    case neg => rw [if_neg h2]
    rw [if_pos h2]
    by_cases h3 : o.sum = b.sum
    case neg => rw [if_neg h3]
    rw [if_pos h3]
    by_cases h4 : o.cur = b.cur
    case neg => rw [if_neg h4]
    rw [if_pos h4]
    by_cases h5 : o.tk = b.tk
    case neg => rw [if_neg h5]
    rw [if_pos h5]
    by_cases h6 : o.tn = b.tn
    case neg => rw [if_neg h6]
    rw [if_pos h6]
    by_cases h7 : o.tu = b.tu
    case neg => rw [if_neg h7]
    rw [if_pos h7]
    by_cases h8 : o.day = b.day
    case neg => rw [if_neg h8]
    rw [if_pos h8]
    by_cases h9 : o.city = b.city
    case neg => rw [if_neg h9]
    rw [if_pos h9]
    by_cases h10 : o.pay = b.pay
    case neg => rw [if_neg h10]
    rw [if_pos h10]
    by_cases h11 : o.need = b.need
    case neg => rw [if_neg h11]
    rw [if_pos h11]
    by_cases h12 : o.rate = b.rate
    case neg => rw [if_neg h12]
    rw [if_pos h12]
    by_cases h13 : o.flags = b.flags
    case neg => rw [if_neg h13]
    rw [if_pos h13]
    by_cases h14 : o.parts = b.parts
    case neg => rw [if_neg h14]
    rw [if_pos h14]
    exact absurd (bl_ext h0 h1 h2 h3 h4 h5 h6 h7 h8 h9 h10 h11 h12 h13 h14) e
end Go.Proofs.YtcjakgpmompaiaaGreatDoor

