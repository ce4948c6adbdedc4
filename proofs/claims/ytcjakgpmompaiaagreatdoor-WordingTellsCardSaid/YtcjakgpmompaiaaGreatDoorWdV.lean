/-
  What the reference reads of a wording (plain).
-/
import Derived.Test.YtcjakgpmompaiaaGreatDoorWd
namespace Go.Proofs.YtcjakgpmompaiaaGreatDoor.Wd
open Rl

/-- behind the next line end -/
def LineR (s t : L8) : Prop := ∀ (a r : L8), (∀ c ∈ a, c ≠ 10) → s = a ++ 10 :: r → t = r
def lineP (s : L8) : L8 := (s.dropWhile (fun c => c != 10)).drop 1
theorem lineR_P (s : L8) : LineR s (lineP s) := by
  intro a r h e
  subst e
  unfold lineP
  rw [List.dropWhile_append_of_pos (fun c hc => by simpa using h c hc), List.dropWhile_cons_of_neg (by decide)]
  rfl
theorem nameR_word (s : L8) : NameR s (s.takeWhile morB) (s.dropWhile morB) := by
  intro x r _ hx hr e
  obtain ⟨c, r', rfl, hc⟩ := hr
  have hcm : ¬ morB c = true := by rcases hc with rfl | rfl <;> decide
  subst e
  rw [List.takeWhile_append_of_pos hx, List.dropWhile_append_of_pos hx, List.takeWhile_cons_of_neg hcm, List.dropWhile_cons_of_neg hcm, List.append_nil]
  exact ⟨rfl, rfl⟩
/-- at most thirteen digits -/
def ndig (s : L8) : L8 := (s.take 13).takeWhile isD
def numP (s : L8) : Int × L8 := if ndig s = [] then (-1, s) else (((val 0 (ndig s) : Nat) : Int), s.drop (ndig s).length)
theorem Nd.take {r : L8} (h : Nd r) (k : Nat) : Nd (r.take k) := fun c r' e => by
  cases r with
  | nil => simp at e
  | cons a t =>
    cases k with
    | zero => simp at e
    | succ k =>
      simp only [List.take_succ_cons, List.cons.injEq] at e
      rw [← e.1]
      exact h a t rfl
theorem numR_P (s : L8) : NumR s (numP s).1 (numP s).2 := by
  intro n r h0 h1 hr e
  have hl : (dec n).length ≤ 13 := decD_len 12 n.toNat (by omega)
  have hd : ndig s = dec n := by
    unfold ndig
    rw [e, List.take_append, List.take_of_length_le hl]
    exact take_digits (hr.take _)
  have hne : ¬ dec n = [] := decD_ne _
  have hv : val 0 (dec n) = n.toNat := val_decD _
  unfold numP
  rw [hd, if_neg hne, hv]
  refine ⟨by show ((n.toNat : Nat) : Int) = n; omega, ?_⟩
  rw [e]
  exact List.drop_left
theorem dateR_ref {s t1 t2 t3 : L8} {y m d : Int} (h1 : NumR s y t1) (h2 : NumR (tk t1 [45]) m t2) (h3 : NumR (tk t2 [45]) d t3) : DateR s (if (Ca.dayOf y m d).2 = 0 then (Ca.dayOf y m d).1 else -1) t3 := by
  intro n r h0 hn hr e
  obtain ⟨a, b, c, e1, e2, q1, q2, q3, q4, q5, q6⟩ := date_day h0 hn
  unfold dateB at e
  rw [e1] at e
  dsimp only at e
  obtain ⟨rfl, rfl⟩ := h1 a (45 :: (dec b ++ 45 :: (dec c ++ r))) (by omega) (by omega) (Nd.cons (by decide)) (by rw [e]; simp only [List.append_assoc, List.cons_append])
  rw [show tk (45 :: (dec (b : Int) ++ 45 :: (dec (c : Int) ++ r))) [45] = dec (b : Int) ++ 45 :: (dec (c : Int) ++ r) from tk_hit [45] _] at h2
  obtain ⟨rfl, rfl⟩ := h2 b _ (by omega) (by omega) (Nd.cons (by decide)) rfl
  rw [show tk (45 :: (dec (c : Int) ++ r)) [45] = dec (c : Int) ++ r from tk_hit [45] _] at h3
  obtain ⟨rfl, rfl⟩ := h3 c _ (by omega) (by omega) hr rfl
  exact ⟨by rw [e2]; rfl, rfl⟩
theorem hp_app : ∀ (a x y : L8), hp (a ++ x) (a ++ y) = hp x y
  | [], _, _ => rfl
  | c :: a, x, y => by
    have := hp_app a x y
    unfold hp Lib.hasPrefix at this ⊢
    rw [List.cons_append, List.cons_append, List.isPrefixOf_cons_cons, beq_self_eq_true, Bool.true_and, this]
theorem tk_app (a x y : L8) (h : hp x y = true) : tk (a ++ x) (a ++ y) = tk x y := by
  have h2 := hp_app a x y
  rw [h] at h2
  unfold tk Lib.trimPrefix
  rw [show Lib.hasPrefix (a ++ x) (a ++ y) = true from h2, show Lib.hasPrefix x y = true from h, if_pos rfl, if_pos rfl, List.length_append, List.drop_append, Nat.add_sub_cancel_left, List.drop_eq_nil_of_le (by omega)]
  rfl

/-- the line that says when a bill is payable -/
def TenR (s : L8) (k n u : Int) : Prop := ∀ (k' n' u' : Int) (r : L8), TnQ k' n' u' → s = tPay ++ (termB k' n' u' ++ 10 :: r) → k = k' ∧ n = n' ∧ u = u'
abbrev tDaysA : L8 := [32, 100, 97, 121, 115, 32, 97, 102, 116, 101, 114, 32]
abbrev tMonthsA : L8 := [32, 109, 111, 110, 116, 104, 115, 32, 97, 102, 116, 101, 114, 32]
abbrev tDate : L8 := [100, 97, 116, 101]
theorem tenR_usance {s : L8} (h : hp s (tPay ++ tUsance) = true) : TenR s 4 0 0 := by
  intro k' n' u' r hq e
  subst e
  rw [hp_app] at h
  obtain ⟨h1, h2, h3, -⟩ := termR_usance h _ _ _ r hq rfl
  exact ⟨h1, h2, h3⟩
theorem tenR_sight {s : L8} (h : hp s (tPay ++ tSight) = true) : TenR s 0 0 0 := by
  intro k' n' u' r hq e
  subst e
  rw [hp_app] at h
  obtain ⟨h1, h2, h3, -⟩ := termR_sight h _ _ _ r hq rfl
  exact ⟨h1, h2, h3⟩
theorem tenR_fixed {s t : L8} {v : Int} (h : hp s (tPay ++ tAt) = true) (hd : DateR (tk s (tPay ++ tAt)) v t) : TenR s 3 v 0 := by
  intro k' n' u' r hq e
  subst e
  rw [hp_app] at h
  rw [tk_app _ _ _ h] at hd
  obtain ⟨h1, h2, h3, -⟩ := termR_fixed h hd _ _ _ r hq rfl
  exact ⟨h1, h2, h3⟩
theorem tenR_after {s t1 t2 : L8} {v k u : Int} (h1 : hp s (tPay ++ tUsance) = false) (h2 : hp s (tPay ++ tAt) = false) (h3 : hp s (tPay ++ tSight) = false) (hn : NumR (tk s tPay) v t1)
    (hu : u = if hp t1 tDaysA = true then 0 else 1) (ht2 : t2 = if hp t1 tDaysA = true then tk t1 tDaysA else tk t1 tMonthsA) (hk : k = if hp t2 tDate = true then 2 else 1) : TenR s k v u := by
  intro k' n u' r hq e
  subst e
  rw [hp_app] at h1 h2 h3
  rw [tk_hit] at hn
  rcases hq with _ | _ | ⟨q1, q2⟩ | ⟨q1, q2, q3, q4⟩
  · cases h3
  · cases h1
  · cases h2
  · have e : termB k' n u' ++ 10 :: r = dec n ++ ((if u' = 1 then tMonths else tDays) ++ ((if k' = 1 then tASight else tADate) ++ 10 :: r)) := by
      unfold termB perB
      rw [if_neg (by omega), if_neg (by omega), if_neg (by omega)]
      split <;> simp only [List.append_assoc]
    obtain ⟨rfl, rfl⟩ := hn n _ (by omega) (by omega) (by
      rcases q4 with rfl | rfl
      · exact Nd.cons (by decide)
      · exact Nd.cons (by decide)) e
    rcases q4 with rfl | rfl <;> rcases q1 with rfl | rfl
    · have e1 : hp (tDays ++ (tASight ++ 10 :: r)) tDaysA = true := rfl
      rw [if_neg (show ¬ (0 : Int) = 1 by decide), if_pos (show (1 : Int) = 1 from rfl), e1, if_pos rfl] at hu ht2
      rw [ht2] at hk
      exact ⟨hk, rfl, hu⟩
    · have e1 : hp (tDays ++ (tADate ++ 10 :: r)) tDaysA = true := rfl
      rw [if_neg (show ¬ (0 : Int) = 1 by decide), if_neg (show ¬ (2 : Int) = 1 by decide), e1, if_pos rfl] at hu ht2
      rw [ht2] at hk
      exact ⟨hk, rfl, hu⟩
    · have e1 : hp (tMonths ++ (tASight ++ 10 :: r)) tDaysA = false := rfl
      rw [if_pos (show (1 : Int) = 1 from rfl), if_pos (show (1 : Int) = 1 from rfl), e1, if_neg (by decide)] at hu ht2
      rw [ht2] at hk
      exact ⟨hk, rfl, hu⟩
    · have e1 : hp (tMonths ++ (tADate ++ 10 :: r)) tDaysA = false := rfl
      rw [if_pos (show (1 : Int) = 1 from rfl), if_neg (show ¬ (2 : Int) = 1 by decide), e1, if_neg (by decide)] at hu ht2
      rw [ht2] at hk
      exact ⟨hk, rfl, hu⟩

/-- the line of the payee -/
def PyR (R : Rlm) (s : L8) (p : Int) (o : Bool) : Prop := ∀ (p' : Int) (o' : Bool) (r : L8), checkP R = 0 → As s → (p' = -1 ∨ ix p' R.firms.length = true) → (p' = -1 → o' = false) →
  s = tTo ++ ((if p' = -1 then tBearer else firmN R p' ++ (if o' = true then tNot else tOr)) ++ 10 :: r) → p = p' ∧ o = o'
abbrev tNotW : L8 := [32, 110, 111, 116]
theorem pyR_bearer {R : Rlm} {s : L8} (h : hp s (tTo ++ (tBearer ++ [10])) = true) : PyR R s (-1) false := by
  intro p o r hc ha hp1 ho e
  subst e
  rw [hp_app] at h
  obtain ⟨h1, h2, -⟩ := payR_bearer h p o r hc ha.right hp1 ho rfl
  exact ⟨h1, h2⟩
theorem pyR_firm {R : Rlm} {s t1 : L8} {v : Int} {o : Bool} (h : hp s (tTo ++ (tBearer ++ [10])) = false) (hf : FirmR R (tk s tTo) v t1) (ho : o = hp t1 tNotW) : PyR R s v o := by
  intro p o' r hc ha hp1 ho' e
  subst e
  rw [hp_app] at h
  rw [tk_hit] at hf
  rcases hp1 with rfl | hp1
  · exfalso
    rw [if_pos rfl, show hp (tBearer ++ 10 :: r) (tBearer ++ [10]) = true from hp_hit (tBearer ++ [10]) r] at h
    cases h
  · rw [if_neg (ix_ne hp1), List.append_assoc] at hf
    replace ha := ha.right
    rw [if_neg (ix_ne hp1), List.append_assoc] at ha
    obtain ⟨x, hx⟩ := sp_or o' r
    obtain ⟨rfl, rfl⟩ := hf p _ hc hp1 ha (by rw [hx]; exact .sp x) rfl
    refine ⟨rfl, ?_⟩
    cases o' with
    | true => exact ho
    | false => exact ho

/-- the line of the sum -/
def SmR (R : Rlm) (s : L8) (v c i : Int) : Prop := ∀ (v' c' i' : Int) (r : L8), checkP R = 0 → As s → 0 ≤ v' → v' ≤ 1099511627776 → ix c' R.cur.length = true → 0 ≤ i' → i' ≤ 1000 →
  s = dec v' ++ 32 :: (curN R c' ++ (intB i' ++ 10 :: r)) → v = v' ∧ c = c' ∧ i = i'
theorem smR_of {R : Rlm} {s t1 t2 t3 : L8} {v c i : Int} (h1 : NumR s v t1) (h2 : CurR R (tk t1 [32]) c t2)
    (hi : if hp t2 tInt = true then NumR (tk t2 tInt) i t3 else i = 0) : SmR R s v c i := by
  intro v' c' i' r hc ha q1 q2 q3 q4 q5 e
  obtain ⟨rfl, rfl⟩ := h1 v' _ q1 q2 (Nd.cons (by decide)) e
  rw [show tk (32 :: (curN R c' ++ (intB i' ++ 10 :: r))) [32] = curN R c' ++ (intB i' ++ 10 :: r) from tk_hit [32] _] at h2
  have ha2 : As (curN R c' ++ (intB i' ++ 10 :: r)) := by rw [e] at ha; exact ha.right.tail
  obtain ⟨rfl, rfl⟩ := h2 c' _ hc q3 ha2 (by
    unfold intB
    split
    · exact .nl r
    · exact .sp _) rfl
  refine ⟨rfl, rfl, ?_⟩
  by_cases c0 : i' = 0
  · have e3 : intB i' ++ 10 :: r = 10 :: r := by unfold intB; rw [if_pos c0]; rfl
    rw [e3, show hp (10 :: r) tInt = false from rfl, if_neg (by decide)] at hi
    exact hi.trans c0.symm
  · have e3 : intB i' ++ 10 :: r = tInt ++ (dec i' ++ (tMille ++ 10 :: r)) := by unfold intB; rw [if_neg c0]; simp only [List.append_assoc]
    rw [e3, show hp (tInt ++ (dec i' ++ (tMille ++ 10 :: r))) tInt = true from hp_hit _ _, if_pos rfl, show tk (tInt ++ (dec i' ++ (tMille ++ 10 :: r))) tInt = dec i' ++ (tMille ++ 10 :: r) from tk_hit _ _] at hi
    exact (hi i' _ (by omega) (by omega) (Nd.cons (by decide)) rfl).1
/-- the last place of a string -/
def lastV (l : List B) (x : B) (k : Nat) (c0 : Int) : Int := (List.range k).foldl (fun (c : Int) (i : Nat) => if l[i]? = some x then (i : Int) else c) c0
theorem lastV_succ (l : List B) (x : B) (k : Nat) (c0 : Int) : lastV l x (k + 1) c0 = if l[k]? = some x then (k : Int) else lastV l x k c0 := by
  unfold lastV
  rw [List.range_succ, List.foldl_append]
  rfl
theorem lastV_at {l : List B} {x : B} {i : Nat} (h : l[i]? = some x) (hu : ∀ j, l[j]? = some x → j = i) (c0 : Int) : ∀ k, i < k → lastV l x k c0 = i
  | 0, h0 => by omega
  | k + 1, h0 => by
    rw [lastV_succ]
    by_cases e : l[k]? = some x
    · rw [if_pos e, hu k e]
    · rw [if_neg e]
      rcases Nat.lt_or_ge i k with h1 | h1
      · exact lastV_at h hu c0 k h1
      · have : i = k := by omega
        subst this
        exact absurd h e
theorem curR_last {R : Rlm} {s nm t : L8} (h : NameR s nm t) : CurR R s (lastV R.cur (mkB nm) R.cur.length (-1)) t := by
  intro n r hc hn ha hr e
  obtain ⟨h1, h2⟩ := cur_facts hc hn
  obtain ⟨rfl, h4⟩ := h _ _ ha h1 hr e
  refine ⟨?_, h4⟩
  obtain ⟨i, x, rfl, hx⟩ := ix_get hn
  rw [curN_at hx, mkB_of] at h2 ⊢
  refine lastV_at hx (fun j hj => ?_) _ _ (List.getElem?_eq_some_iff.1 hx).1
  have hj2 : ix (j : Int) R.cur.length = true := ix_iff.2 ⟨by omega, by have := (List.getElem?_eq_some_iff.1 hj).1; omega⟩
  have h3 := (cur_facts hc hj2).2
  rw [curN_at hj, mkB_of, h2] at h3
  omega

/-- the last lines -/
def LsR (R : Rlm) (s : L8) (n : Int) (d : Bool) (w : Int) : Prop := ∀ (u : Option L8) (n' : Int) (d' : Bool) (m : Int), checkP R = 0 → As s → (n' = -1 ∨ ix n' R.firms.length = true) → (∀ x, u = some x → ∀ c ∈ x, c ≠ 10) → ix m R.firms.length = true →
  s = clT R u n' d' (firmN R m ++ [10]) → n = n' ∧ d = d' ∧ w = m
abbrev tUnlessW : L8 := [117, 110, 108, 101, 115, 115, 32]
abbrev tWithoutW : L8 := [119, 105, 116, 104, 111, 117, 116, 32]
theorem wy_no {x : L8} (h : Wy x) : ∀ c ∈ x, c ≠ 10 := fun c hc => (mor_facts (h c hc)).2.1
theorem app_no {x y : L8} (h : ∀ c ∈ x, c ≠ 10) (h2 : ∀ c ∈ y, c ≠ 10) : ∀ c ∈ x ++ y, c ≠ 10 := fun c hc => (List.mem_append.1 hc).elim (h c) (h2 c)
theorem cons_no {x : L8} {b : UInt8} (hb : b ≠ 10) (h : ∀ c ∈ x, c ≠ 10) : ∀ c ∈ b :: x, c ≠ 10 := fun c hc => by
  rcases List.mem_cons.1 hc with rfl | hc
  · exact hb
  · exact h c hc
theorem lit_no {x : L8} (h : x.all (fun c => c != 10) = true) : ∀ c ∈ x, c ≠ 10 := fun c hc => by simpa using List.all_eq_true.1 h c hc
theorem lsR_of {R : Rlm} {s s1 s2 s3 s4 s5 : L8} {n w : Int} {c1 c2 d : Bool} (h1 : c1 = hp s tUnlessW) (e1 : s1 = if c1 = true then lineP s else s) (h2 : c2 = hp s1 tNeed)
    (hf : if c2 = true then FirmR R (tk s1 tNeed) n s2 ∧ s3 = lineP s1 else n = -1 ∧ s3 = s1) (hd : d = hp s3 tWithoutW) (e4 : s4 = if d = true then lineP s3 else s3) (hw : FirmR R (tk s4 tSigned) w s5) : LsR R s n d w := by
  intro u n' d' m hc ha hn hu hm e
  have hs1 : s1 = (if n' = -1 then [] else tNeed ++ (firmN R n' ++ 10 :: [])) ++ ((if d' = true then tWithout ++ 10 :: [] else []) ++ (tSigned ++ (firmN R m ++ [10]))) ∧ As s1 := by
    cases u with
    | none =>
      have e2 : s = (if n' = -1 then [] else tNeed ++ (firmN R n' ++ 10 :: [])) ++ ((if d' = true then tWithout ++ 10 :: [] else []) ++ (tSigned ++ (firmN R m ++ [10]))) := e
      have hno : c1 = false := by
        rw [h1, e2]
        split
        · split <;> exact hp_head _ _ (by decide)
        · exact hp_head _ _ (by decide)
      rw [hno] at e1
      have e3 : s1 = s := e1
      exact ⟨e3.trans e2, by rw [e3]; exact ha⟩
    | some x =>
      have e2 : s = (tUnless ++ x) ++ 10 :: ((if n' = -1 then [] else tNeed ++ (firmN R n' ++ 10 :: [])) ++ ((if d' = true then tWithout ++ 10 :: [] else []) ++ (tSigned ++ (firmN R m ++ [10])))) := by
        rw [e]
        simp only [clT, List.append_assoc, List.cons_append, List.nil_append]
      have hyes : c1 = true := by rw [h1, e2]; exact hp_hit tUnlessW _
      rw [hyes, if_pos rfl] at e1
      have e3 := lineR_P s _ _ (app_no (lit_no (by decide)) (hu x rfl)) e2
      rw [← e1] at e3
      refine ⟨e3, ?_⟩
      rw [e3]
      rw [e2] at ha
      exact ha.right.tail
  obtain ⟨hs1, ha1⟩ := hs1
  have hs3 : n = n' ∧ s3 = (if d' = true then tWithout ++ 10 :: [] else []) ++ (tSigned ++ (firmN R m ++ [10])) ∧ As s3 := by
    by_cases c : n' = -1
    · rw [if_pos c, List.nil_append] at hs1
      have hno : c2 = false := by
        rw [h2, hs1]
        split <;> exact hp_head _ _ (by decide)
      rw [hno, if_neg (by decide)] at hf
      exact ⟨hf.1.trans c.symm, hf.2.trans hs1, by rw [hf.2]; exact ha1⟩
    · rw [if_neg c] at hs1
      have hi : ix n' R.firms.length = true := by rcases hn with h | h; exact absurd h c; exact h
      have hwy := (firm_facts hc hi).1
      have e2 : s1 = tNeed ++ (firmN R n' ++ 10 :: ((if d' = true then tWithout ++ 10 :: [] else []) ++ (tSigned ++ (firmN R m ++ [10])))) := by
        rw [hs1]
        simp only [List.append_assoc, List.cons_append, List.nil_append]
      have hyes : c2 = true := by rw [h2, e2]; exact hp_hit _ _
      have e5 : s1 = (tNeed ++ firmN R n') ++ 10 :: ((if d' = true then tWithout ++ 10 :: [] else []) ++ (tSigned ++ (firmN R m ++ [10]))) := by rw [e2, List.append_assoc]
      have e6 := lineR_P s1 _ _ (app_no (lit_no (by decide)) (wy_no hwy)) e5
      rw [hyes, if_pos rfl] at hf
      obtain ⟨hf1, hf2⟩ := hf
      rw [e2, show tk (tNeed ++ (firmN R n' ++ 10 :: ((if d' = true then tWithout ++ 10 :: [] else []) ++ (tSigned ++ (firmN R m ++ [10]))))) tNeed = _ from tk_hit _ _] at hf1
      have ha2 := ha1
      rw [e2] at ha2
      obtain ⟨rfl, -⟩ := hf1 n' _ hc hi ha2.right (.nl _) rfl
      exact ⟨rfl, hf2.trans e6, by rw [hf2, e6]; exact ha2.right.right.tail⟩
  obtain ⟨hn2, hs3, ha3⟩ := hs3
  refine ⟨hn2, ?_⟩
  have hs4 : d = d' ∧ s4 = tSigned ++ (firmN R m ++ [10]) ∧ As s4 := by
    cases d' with
    | true =>
      have e2 : s3 = tWithout ++ 10 :: (tSigned ++ (firmN R m ++ [10])) := hs3
      have hyes : d = true := by rw [hd, e2]; exact hp_hit tWithoutW _
      have e5 := lineR_P s3 _ _ (lit_no (by decide)) e2
      rw [hyes, if_pos rfl] at e4
      exact ⟨hyes, e4.trans e5, by rw [e4, e5]; rw [e2] at ha3; exact ha3.right.tail⟩
    | false =>
      have e2 : s3 = tSigned ++ (firmN R m ++ [10]) := hs3
      have hno : d = false := by rw [hd, e2]; exact hp_head _ _ (by decide)
      rw [hno] at e4
      exact ⟨hno, e4.trans e2, by rw [e4.trans e2, ← e2]; exact ha3⟩
  obtain ⟨hd2, hs4, ha4⟩ := hs4
  refine ⟨hd2, ?_⟩
  rw [hs4, show tk (tSigned ++ (firmN R m ++ [10])) tSigned = _ from tk_hit _ _] at hw
  rw [hs4] at ha4
  exact (hw m _ hc hm ha4.right (.nl _) rfl).1

theorem term_no (k n u : Int) : ∀ c ∈ termB k n u, c ≠ 10 := by
  have hdec : ∀ m : Int, ∀ c ∈ dec m, c ≠ 10 := fun m c hc e => by
    have := isD_iff.1 (decD_all _ c hc)
    rw [e] at this
    exact absurd this.1 (by decide)
  have hdate : ∀ m : Int, ∀ c ∈ dateB m, c ≠ 10 := fun m => app_no (hdec _) (cons_no (by decide) (app_no (hdec _) (cons_no (by decide) (hdec _))))
  unfold termB perB
  repeat' split
  all_goals first | exact lit_no (by decide) | exact app_no (lit_no (by decide)) (hdate _) | exact app_no (app_no (hdec _) (lit_no (by decide))) (lit_no (by decide))
theorem dec_no (m : Int) : ∀ c ∈ dec m, c ≠ 10 := fun c hc e => by
  have := isD_iff.1 (decD_all _ c hc)
  rw [e] at this
  exact absurd this.1 (by decide)

theorem pay_no {R : Rlm} {p f : Int} (hc : checkP R = 0) (h : p = -1 ∨ ix p R.firms.length = true) : ∀ c ∈ payB R p f, c ≠ 10 := by
  unfold payB
  split
  · exact lit_no (by decide)
  · rename_i c
    have hf := wy_no (firm_facts hc (h.resolve_left c)).1
    split <;> exact app_no hf (lit_no (by decide))
theorem int_no (n : Int) : ∀ c ∈ intB n, c ≠ 10 := by
  unfold intB
  split
  · exact lit_no (by decide)
  · exact app_no (app_no (lit_no (by decide)) (dec_no _)) (lit_no (by decide))
theorem line_hit0 (r : L8) : lineP (10 :: r) = r := lineR_P _ [] _ (fun _ h => nomatch h) rfl
theorem line_hit2 {a b : L8} (ha : ∀ c ∈ a, c ≠ 10) (hb : ∀ c ∈ b, c ≠ 10) (r : L8) : lineP (a ++ (b ++ 10 :: r)) = r := lineR_P _ (a ++ b) _ (app_no ha hb) (by rw [List.append_assoc])
theorem line_hit4 {a b d : L8} (ha : ∀ c ∈ a, c ≠ 10) (hb : ∀ c ∈ b, c ≠ 10) (hd : ∀ c ∈ d, c ≠ 10) (r : L8) : lineP (a ++ 32 :: (b ++ (d ++ 10 :: r))) = r := lineR_P _ (a ++ 32 :: (b ++ d)) _ (app_no ha (cons_no (by decide) (app_no hb hd))) (by rw [List.append_assoc, List.cons_append, List.append_assoc])
theorem headL {s t1 t2 t4 : L8} {v1 v2 : Int} {w : Bool} (hw : w = hp s (tBill ++ [32])) (ht : t1 = if w = true then tk s (tBill ++ [32]) else tk s (tPaper ++ [32])) (h1 : NumR t1 v1 t2) (h2 : NumR (tk t2 tOf) v2 t4) (w' : Bool) (p N : Int) (r : L8) (q1 : 0 ≤ p) (q2 : p < N) (q3 : N ≤ 4)
    (e : s = (if w' = true then tBill else tPaper) ++ 32 :: (dec (p + 1) ++ (tOf ++ (dec N ++ 10 :: r)))) : w = w' ∧ v1 = p + 1 ∧ v2 = N ∧ t4 = 10 :: r := by
  have hww : w = w' ∧ t1 = dec (p + 1) ++ (tOf ++ (dec N ++ 10 :: r)) := by
    cases w' with
    | true =>
      have e2 : s = (tBill ++ [32]) ++ (dec (p + 1) ++ (tOf ++ (dec N ++ 10 :: r))) := e
      have hw2 : w = true := by rw [hw, e2]; exact hp_hit _ _
      rw [if_pos hw2, e2] at ht
      exact ⟨hw2, ht.trans (tk_hit _ _)⟩
    | false =>
      have e2 : s = (tPaper ++ [32]) ++ (dec (p + 1) ++ (tOf ++ (dec N ++ 10 :: r))) := e
      have hw2 : w = false := by rw [hw, e2]; exact hp_head _ _ (by decide)
      rw [if_neg (by rw [hw2]; decide), e2] at ht
      exact ⟨hw2, ht.trans (tk_hit _ _)⟩
  obtain ⟨h3, rfl⟩ := hww
  obtain ⟨rfl, rfl⟩ := h1 (p + 1) _ (by omega) (by omega) (Nd.cons (by decide)) rfl
  change NumR (tk (tOf ++ (dec N ++ 10 :: r)) tOf) v2 t4 at h2
  rw [tk_hit] at h2
  obtain ⟨rfl, rfl⟩ := h2 N _ (by omega) (by omega) (Nd.cons (by decide)) rfl
  exact ⟨h3, rfl, rfl, rfl⟩

/-- what the reference reads of a wording is the bill, and the part -/
theorem ref_ok {R : Rlm} {s t1 t2 t4 t7 t9 t15 t17 : L8} {w o d : Bool} {v1 parts city day a n u payee sum cur rate drawee pay need drawer : Int}
    (hw : w = hp s (tBill ++ [32])) (ht : t1 = if w = true then tk s (tBill ++ [32]) else tk s (tPaper ++ [32])) (h1 : NumR t1 v1 t2) (h2 : NumR (tk t2 tOf) parts t4)
    (k1 : CityR R (tk (lineP t4) tDrawn) city t7) (k2 : DateR (tk t7 tOn) day t9) (k3 : TenR (lineP t9) a n u) (k4 : PyR R (lineP (lineP t9)) payee o) (k5 : SmR R (lineP (lineP (lineP t9))) sum cur rate)
    (k6 : FirmR R (tk (lineP (lineP (lineP (lineP t9)))) tBy) drawee t15) (k7 : CityR R (tk t15 tIn) pay t17) (k8 : LsR R (lineP t17) need d drawer) (b : Bl) (p : Int) (h : IsT R (mkB s) b p) :
    b = ⟨drawer, drawee, payee, sum, cur, a, n, u, day, city, pay, need, rate, flagsOf w d o, parts⟩ ∧ p = v1 - 1 := by
  have hr := rt_of h.ok
  have hs : s = wordW R b p := mkB_inj h.eq
  have ha : As s := by rw [hs]; exact as_word hr p
  have hn := tnQ_of hr.tn
  have hpa := hr.parts
  rw [word_eq] at hs
  obtain ⟨rfl, rfl, rfl, rfl⟩ := headL hw ht h1 h2 _ p b.parts _ h.lo h.hi (by omega) hs
  have a0 := ha
  rw [hs] at a0
  replace a0 := a0.right.tail.right.right.right.tail
  rw [line_hit0] at k1
  replace k1 := Eq.mp (congrArg (fun z => CityR R z city t7) (tk_hit tDrawn _)) k1
  replace a0 := a0.right
  obtain ⟨rfl, rfl⟩ := k1 b.city _ hr.realm hr.city a0 (.sp _) rfl
  replace k2 := Eq.mp (congrArg (fun z => DateR z day t9) (tk_hit tOn _)) k2
  replace a0 := a0.right.right
  obtain ⟨rfl, rfl⟩ := k2 b.day _ hr.day.1 hr.day.2 (Nd.cons (by decide)) rfl
  rw [line_hit0] at k3 k4 k5 k6
  obtain ⟨e1, e2, e3⟩ := k3 _ _ _ _ hn rfl
  replace a0 := a0.right.tail.right.right.tail
  rw [line_hit2 (lit_no (x := tPay) (by decide)) (term_no _ _ _)] at k4 k5 k6
  obtain ⟨e4, e5⟩ := k4 b.payee (bit b.flags 4) _ hr.realm a0 hr.payee hr.bearer rfl
  replace a0 := a0.right.right.tail
  rw [line_hit2 (lit_no (x := tTo) (by decide)) (pay_no hr.realm hr.payee)] at k5 k6
  obtain ⟨e6, e7, e8⟩ := k5 b.sum b.cur b.rate _ hr.realm a0 (by have := hr.sum; omega) hr.sum.2 hr.cur hr.rate.1 hr.rate.2 rfl
  replace a0 := a0.right.tail.right.right.tail.right
  rw [line_hit4 (dec_no _) (wy_no (cur_facts hr.realm hr.cur).1) (int_no _)] at k6
  replace k6 := Eq.mp (congrArg (fun z => FirmR R z drawee t15) (tk_hit tBy _)) k6
  obtain ⟨e9, rfl⟩ := k6 b.drawee _ hr.realm hr.drawee a0 (.sp _) rfl
  replace k7 := Eq.mp (congrArg (fun z => CityR R z pay t17) (tk_hit tIn _)) k7
  replace a0 := a0.right.right
  obtain ⟨e10, rfl⟩ := k7 b.pay _ hr.realm hr.pay a0 (.nl _) rfl
  rw [line_hit0] at k8
  replace a0 := a0.right.tail
  obtain ⟨e11, e12, e13⟩ := k8 _ b.need (bit b.flags 2) b.drawer hr.realm a0 hr.need (by
    intro x hx
    split at hx
    · cases hx; exact oth_no
    · cases hx) hr.drawer rfl
  refine ⟨?_, by omega⟩
  rw [e1, e2, e3, e4, e5, e6, e7, e8, e9, e10, e11, e12, e13, ← flags_bits hr.flags.1 hr.flags.2]
end Go.Proofs.YtcjakgpmompaiaaGreatDoor.Wd

/-
  A text is the wording of at most one part of one bill (plain).
-/
namespace Go.Proofs.YtcjakgpmompaiaaGreatDoor.Wd
open Rl

theorem ten_ex (s : L8) : ∃ k n u : Int, TenR s k n u := by
  cases h1 : hp s (tPay ++ tUsance)
  case true => exact ⟨_, _, _, tenR_usance h1⟩
  cases h2 : hp s (tPay ++ tAt)
  case true => exact ⟨_, _, _, tenR_fixed h2 (dateR_ref (numR_P _) (numR_P _) (numR_P _))⟩
  cases h3 : hp s (tPay ++ tSight)
  case true => exact ⟨_, _, _, tenR_sight h3⟩
  exact ⟨_, _, _, tenR_after h1 h2 h3 (numR_P _) rfl rfl rfl⟩
theorem py_ex (R : Rlm) (s : L8) : ∃ (p : Int) (o : Bool), PyR R s p o := by
  cases h : hp s (tTo ++ (tBearer ++ [10]))
  case true => exact ⟨_, _, pyR_bearer h⟩
  exact ⟨_, _, pyR_firm h (nameR_word _).firm rfl⟩
theorem sm_ex (R : Rlm) (s : L8) : ∃ v c i : Int, SmR R s v c i := by
  have hc := curR_last (R := R) (nameR_word (tk (numP s).2 [32]))
  cases h : hp ((tk (numP s).2 [32]).dropWhile morB) tInt
  case true => exact ⟨_, _, _, smR_of (numR_P _) hc (by rw [if_pos h]; exact numR_P _)⟩
  exact ⟨_, _, 0, smR_of (t3 := []) (numR_P _) hc (by rw [if_neg (by rw [h]; decide)])⟩
theorem ls_ex (R : Rlm) (s : L8) : ∃ (n : Int) (d : Bool) (w : Int), LsR R s n d w := by
  cases h : hp (if hp s tUnlessW = true then lineP s else s) tNeed
  case true => exact ⟨_, _, _, lsR_of rfl rfl rfl (by rw [if_pos h]; exact ⟨(nameR_word _).firm, rfl⟩) rfl rfl (nameR_word _).firm⟩
  exact ⟨-1, _, _, lsR_of (s2 := []) rfl rfl rfl (by rw [if_neg (by rw [h]; decide)]; exact ⟨rfl, rfl⟩) rfl rfl (nameR_word _).firm⟩
theorem uniq_all (R : Rlm) (t : B) : Uniq R t := by
  intro b p b' p' h h'
  obtain ⟨s, rfl⟩ : ∃ s : L8, t = mkB s := ⟨t.data.toList, rfl⟩
  obtain ⟨k, n, u, k3⟩ := ten_ex (lineP (numP (tk (numP (tk (numP (tk ((tk (lineP (numP (tk (numP (if hp s (tBill ++ [32]) = true then tk s (tBill ++ [32]) else tk s (tPaper ++ [32]))).2 tOf)).2) tDrawn).dropWhile morB) tOn)).2 [45])).2 [45])).2)
  obtain ⟨py, o, k4⟩ := py_ex R (lineP (lineP (numP (tk (numP (tk (numP (tk ((tk (lineP (numP (tk (numP (if hp s (tBill ++ [32]) = true then tk s (tBill ++ [32]) else tk s (tPaper ++ [32]))).2 tOf)).2) tDrawn).dropWhile morB) tOn)).2 [45])).2 [45])).2))
  obtain ⟨v, c, i, k5⟩ := sm_ex R (lineP (lineP (lineP (numP (tk (numP (tk (numP (tk ((tk (lineP (numP (tk (numP (if hp s (tBill ++ [32]) = true then tk s (tBill ++ [32]) else tk s (tPaper ++ [32]))).2 tOf)).2) tDrawn).dropWhile morB) tOn)).2 [45])).2 [45])).2)))
  obtain ⟨nn, d, w, k8⟩ := ls_ex R (lineP ((tk ((tk (lineP (lineP (lineP (lineP (numP (tk (numP (tk (numP (tk ((tk (lineP (numP (tk (numP (if hp s (tBill ++ [32]) = true then tk s (tBill ++ [32]) else tk s (tPaper ++ [32]))).2 tOf)).2) tDrawn).dropWhile morB) tOn)).2 [45])).2 [45])).2)))) tBy).dropWhile morB) tIn).dropWhile morB))
  have f := ref_ok (R := R) (s := s) rfl rfl (numR_P _) (numR_P _) (nameR_word _).city (dateR_ref (numR_P _) (numR_P _) (numR_P _)) k3 k4 k5 (nameR_word _).firm (nameR_word _).city k8
  obtain ⟨e1, e2⟩ := f b p h
  obtain ⟨e3, e4⟩ := f b' p' h'
  exact ⟨e1.trans e3.symm, e2.trans e4.symm⟩
end Go.Proofs.YtcjakgpmompaiaaGreatDoor.Wd

