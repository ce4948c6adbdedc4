/-
  The program writes: the wording of a part.
-/
import Derived.Test.YtcjakgpmompaiaaGreatDoorWrO
import Derived.Great.BuildSlice
namespace Go.Proofs.YtcjakgpmompaiaaGreatDoor
open Go.RowKit Rl Wd

theorem wat_all {T : Type} {w : World} {k cap : Nat} {c : T → List Value} {a : Option Addr} {l : List T} (h : LAt w k c (.slice a l.length cap) l) {n : Int} (hn : ix n l.length = true) :
    ∃ b off : Nat, a = some ⟨b, off, none⟩ ∧ Hid (∀ (i : Nat) (x : T), l[i]? = some x → ∀ (j : Nat) (y : Value), (c x)[j]? = some y → w.cell? ⟨b, off + i * k + j, none⟩ = some y) := by
  obtain ⟨i, x, rfl, hx⟩ := ix_get hn
  obtain ⟨a2, cap2, e, -, hf⟩ := h.form
  simp only [Value.slice.injEq] at e
  obtain ⟨rfl, -, -⟩ := e
  obtain ⟨b, off, rfl, -, -⟩ := hf.out i x hx
  refine ⟨b, off, rfl, fun i x hx j y hy => ?_⟩
  obtain ⟨b2, off2, e, -, hc⟩ := hf.out i x hx
  simp only [Option.some.injEq, Addr.mk.injEq] at e
  obtain ⟨rfl, rfl, -⟩ := e
  exact hc j y hy
theorem RB.low {w w' : World} {g n : Nat} {a0 a1 a2 a3 a4 a5 a6 a7 : Option Addr} {c0 c1 c2 c3 c4 c5 c6 c7 : Nat} {R : Rlm} (h : RB w g a0 a1 a2 a3 a4 a5 a6 a7 c0 c1 c2 c3 c4 c5 c6 c7 R) (hb : Below n w w') (hg : g < n) : RB w' g a0 a1 a2 a3 a4 a5 a6 a7 c0 c1 c2 c3 c4 c5 c6 c7 R := by
  have e : ∀ i, w'.cell? ⟨g, i, none⟩ = w.cell? ⟨g, i, none⟩ := fun i => hb.cell (p := ⟨g, i, none⟩) hg
  exact ⟨by rw [e]; exact h.b0, by rw [e]; exact h.b1, by rw [e]; exact h.b2, by rw [e]; exact h.b3, by rw [e]; exact h.b4, by rw [e]; exact h.b5, by rw [e]; exact h.b6, by rw [e]; exact h.b7⟩
theorem low_up {n : Nat} {w w1 w2 : World} (h : Below n w w1) (h2 : Below w1.heap.size w1 w2) (hn : n ≤ w.heap.size) : Below n w w2 := h.trans (h2.mono (Nat.le_trans hn h.size))
theorem inter_lines : ∀ l : List L8, l ≠ [] → ([10] : L8).intercalate l ++ [10] = l.flatMap (· ++ [10])
  | [], h => absurd rfl h
  | [x], _ => by simp [List.intercalate]
  | x :: y :: t, _ => by
    have ih := inter_lines (y :: t) (by simp)
    have e : (([10] : L8).intercalate (x :: y :: t)) = x ++ ([10] ++ ([10] : L8).intercalate (y :: t)) := by simp [List.intercalate, List.intersperse]
    rw [e, List.append_assoc, List.append_assoc, ih]
    simp
theorem own_new {w : World} {base g n : Nat} {l : List Value} {T : TypeId} (h : w.heap[g]? = some (.cells l.toArray T (0, 0))) (hb : base ≤ g) (hn : l.length = n) (hm : n ≤ 100) : w.ownsRow base T 1 (.slice (some ⟨g, 0, none⟩) n n) n l := by
  subst hn
  refine ⟨by omega, .inr ⟨g, _, l.toArray, rfl, hb, h, Nat.le_refl _, by unfold maxLen; omega, by simp, by simp⟩⟩

theorem fill6 (x0 x1 x2 x3 x4 x5 : B) :
    Instr.fill (fun i => some (i * 1, 1)) ((Array.range (6 * 1)).map ((Value.string ByteArray.empty).cells[· % (Value.string ByteArray.empty).cells.size]!)) [(0, .string x0), (1, .string x1), (2, .string x2), (3, .string x3), (4, .string x4), (5, .string x5)] = some #[.string x0, .string x1, .string x2, .string x3, .string x4, .string x5] := by kernel_rfl
theorem strInfo : (Tryz.prog.info? 9).map (·.size) = some 1 := by kernel_rfl
theorem strZero : (Tryz.prog.info? 9).bind (·.zero) = some (.string ByteArray.empty) := by kernel_rfl
/-- a list of six strings -/
theorem build6 {o : Oper} {a : Act} {w : World} {K : Act → World → Prop} {Q : Exit → Act → World → Prop} (t0 t1 t2 t3 t4 t5 : Tmp) (ho : o.op = .buildSlice 22 6 #[(0, .tmp t0), (1, .tmp t1), (2, .tmp t2), (3, .tmp t3), (4, .tmp t4), (5, .tmp t5)])
    (x0 x1 x2 x3 x4 x5 : B) (h0 : a.eval (.tmp t0) = .string x0) (h1 : a.eval (.tmp t1) = .string x1) (h2 : a.eval (.tmp t2) = .string x2) (h3 : a.eval (.tmp t3) = .string x3) (h4 : a.eval (.tmp t4) = .string x4) (h5 : a.eval (.tmp t5) = .string x5)
    (h : K (a.put o.dst (.slice (some ⟨w.heap.size, 0, none⟩) 6 6)) (w.alloc (.cells #[.string x0, .string x1, .string x2, .string x3, .string x4, .string x5] 9))) : o.wp Tryz.prog a w K Q := by
  have hs := strInfo
  have hz := strZero
  cases hie : Tryz.prog.info? 9 with
  | none => rw [hie] at hs; cases hs
  | some ie =>
    rw [hie] at hs hz
    simp only [Option.map_some, Option.some.injEq, Option.bind_some] at hs hz
    refine wp_buildSlice 22 9 6 _ ho #[.string x0, .string x1, .string x2, .string x3, .string x4, .string x5] ie (.string ByteArray.empty) Tryz.underlying22 hie hz (by rw [hs]; decide) (by rw [hs]; decide) ?_ h
    rw [hs]
    have e : (#[(0, Operand.tmp t0), (1, .tmp t1), (2, .tmp t2), (3, .tmp t3), (4, .tmp t4), (5, .tmp t5)].map fun (x : Nat × Operand) => (x.1, a.eval x.2)).toList = [(0, .string x0), (1, .string x1), (2, .string x2), (3, .string x3), (4, .string x4), (5, .string x5)] := by
      simp [h0, h1, h2, h3, h4, h5]
    exact (congrArg (Instr.fill _ _) e).trans (fill6 x0 x1 x2 x3 x4 x5)

def WrRel (b : Bl) (R : Rlm) (p : Int) (bU oU bC oC bF oF : Nat) (a2 a4 a5 a6 a7 : Option Addr) (c0 c1 c2 c3 c4 c5 c6 c7 : Nat) (w : World) (v : Value) (wx : World) : Prop :=
  Below (w.heap.size + 2) ((w.alloc (.cells #[.slice (some ⟨bU, oU, none⟩) R.cur.length c0, .slice (some ⟨bC, oC, none⟩) R.cities.length c1, .slice a2 R.groups.length c2, .slice (some ⟨bF, oF, none⟩) R.firms.length c3, .slice a4 R.orders.length c4, .slice a5 R.usances.length c5, .slice a6 R.rates.length c6, .slice a7 R.halts.length c7] 31)).alloc (.cells #[.int .i64 b.drawer, .int .i64 b.drawee, .int .i64 b.payee, .int .i64 b.sum, .int .i64 b.cur, .int .i64 b.tk, .int .i64 b.tn, .int .i64 b.tu, .int .i64 b.day, .int .i64 b.city, .int .i64 b.pay, .int .i64 b.need, .int .i64 b.rate, .int .i64 b.flags, .int .i64 b.parts] 35)) wx ∧ wx.ownsRow (w.heap.size + 2) 9 1 v 6 (strs (([titleB b.flags ++ 32 :: (dec (p + 1) ++ tOf ++ dec b.parts), tDrawn ++ cityN R b.city ++ tOn ++ dateB b.day, tPay ++ termB b.tk b.tn b.tu, tTo ++ payB R b.payee b.flags, dec b.sum ++ 32 :: (curN R b.cur ++ intB b.rate), tBy ++ firmN R b.drawee ++ tIn ++ cityN R b.pay] : List L8).map mkB))
theorem title_sz {f : Int} : (mkB (titleB f)).size ≤ 1000 := by unfold titleB; split <;> decide
theorem term_sz {k n u : Int} (h : TnQ k n u) : (mkB (termB k n u)).size ≤ 1000 := by
  rw [mkB_size]
  rcases h with _ | _ | ⟨h1, h2⟩ | ⟨h1, h2, h3, h4⟩
  · decide
  · decide
  · have := date_le h1 h2
    show (tAt ++ dateB n).length ≤ _
    rw [List.length_append]
    have : tAt.length = 3 := rfl
    omega
  · have := per_le (n := n) (u := u) (by omega)
    unfold termB
    rw [if_neg (by omega), if_neg (by omega), if_neg (by omega)]
    split <;> simp only [List.length_append, List.length_cons, List.length_nil] <;> omega
theorem firmN_le {R : Rlm} (h : checkP R = 0) {n : Int} (hn : ix n R.firms.length = true) : (firmN R n).length ≤ 20 := by
  obtain ⟨i, f, rfl, hf⟩ := ix_get hn
  rw [firmN_at hf, ← size_list]
  exact firm_sz h hf
theorem pay_sz {R : Rlm} {n f : Int} (h : checkP R = 0) (hn : n = -1 ∨ ix n R.firms.length = true) : (mkB (payB R n f)).size ≤ 1000 := by
  rw [mkB_size]
  unfold payB
  by_cases e : n = -1
  · rw [if_pos e]; decide
  · rw [if_neg e]
    have := firmN_le h (hn.resolve_left e)
    split <;> simp only [List.length_append, List.length_cons, List.length_nil] <;> omega
theorem int_sz {n : Int} (h : n ≤ 1000) : (mkB (intB n)).size ≤ 1000 := by
  rw [mkB_size]
  unfold intB
  split
  · decide
  · have := dec_le (n := n) (by omega)
    simp only [List.length_append, List.length_cons, List.length_nil]
    omega
theorem term_len {k n u : Int} (h : TnQ k n u) : (termB k n u).length ≤ 60 := by
  rcases h with _ | _ | ⟨h1, h2⟩ | ⟨h1, h2, h3, h4⟩
  · decide
  · decide
  · have := date_le h1 h2
    show (tAt ++ dateB n).length ≤ _
    rw [List.length_append]
    have : tAt.length = 3 := rfl
    omega
  · have := per_le (n := n) (u := u) (by omega)
    unfold termB
    rw [if_neg (by omega), if_neg (by omega), if_neg (by omega)]
    split <;> simp only [List.length_append, List.length_cons, List.length_nil] <;> omega
theorem own_shape {w : World} {base n : Nat} {T : TypeId} {v : Value} {xs : List Value} (h : w.ownsRow base T 1 v n xs) : ∃ (a : Option Addr) (c : Nat), v = .slice a n c ∧ n ≤ c := by
  rcases h.2 with ⟨rfl, rfl⟩ | ⟨g, cap, cur, rfl, hg, hh, h1, h2, h3, h4⟩
  · exact ⟨none, 0, rfl, Nat.le_refl _⟩
  · exact ⟨_, cap, rfl, h1⟩
theorem join_n {a : Option Addr} {c n base : Nat} {l : List B} (sep : B) (w : World) (h : w.ownsRow base 9 1 (.slice a n c) n (strs l)) (hl : l.length = n) (hc : n ≤ c) (h1 : n ≤ 1000) (h2 : (sep.data.toList.intercalate (l.map (fun x => x.data.toList))).length ≤ 1000000) :
    Calls Tryz.prog 82 #[.slice a n c, .string sep] w fun r w' => r = .returned (.string (mkB (sep.data.toList.intercalate (l.map (fun x => x.data.toList))))) ∧ Below w.heap.size w w' := by
  subst hl
  exact join_x sep w (own_str h rfl) hc h1 h2
theorem oth_sz {N p : Int} (h : 1 ≤ N ∧ N ≤ 4) : (mkB (othB N p)).size ≤ 1000 := by
  obtain ⟨n, rfl⟩ := Int.eq_ofNat_of_zero_le (a := N) (by omega)
  rw [mkB_size]
  exact Nat.le_trans (oth_le (N := n) (p := p) (by omega)) (by decide)
theorem others_p (b : Bl) (p : Int) (w : World) (hE : Ev w) (h0 : 0 ≤ p) (h1 : p < b.parts) (h4 : b.parts ≤ 4) :
    Calls Tryz.prog 81 #[vB b, .int .i64 p] w fun r w' => r = .returned (.string (mkB (othB b.parts p))) ∧ Below w.heap.size w w' := by
  obtain ⟨pn, rfl⟩ := Int.eq_ofNat_of_zero_le h0
  obtain ⟨N, hN⟩ := Int.eq_ofNat_of_zero_le (a := b.parts) (by omega)
  exact others_x b pn N w hE hN (by omega) (by omega)
theorem cityN_le {R : Rlm} (h : checkP R = 0) {n : Int} (hn : ix n R.cities.length = true) : (cityN R n).length ≤ 20 := by
  obtain ⟨i, f, rfl, hf⟩ := ix_get hn
  rw [cityN_at hf, ← size_list]
  exact city_sz h hf
theorem curN_le {R : Rlm} (h : checkP R = 0) {n : Int} (hn : ix n R.cur.length = true) : (curN R n).length ≤ 20 := by
  obtain ⟨i, f, rfl, hf⟩ := ix_get hn
  rw [curN_at hf, ← size_list]
  exact cur_sz h hf
theorem lines_le {R : Rlm} {b : Bl} {p : Int} (h : Rt R b) (_h0 : 0 ≤ p) (h1 : p < b.parts) : ∀ x ∈ linesW R b p, x.length ≤ 300 := by
  have a1 := dec_le (n := p + 1) (by have := h.parts; omega)
  have a2 := dec_le (n := b.parts) (by have := h.parts; omega)
  have a3 := cityN_le h.realm h.city
  have a4 := date_le h.day.1 h.day.2
  have a5 := dec_le (n := b.sum) (by have := h.sum; omega)
  have a6 := curN_le h.realm h.cur
  have a7 := firmN_le h.realm h.drawee
  have a8 := cityN_le h.realm h.pay
  have a9 := firmN_le h.realm h.drawer
  have t0 : (titleB b.flags).length ≤ 5 := by unfold titleB; split <;> decide
  have t1 : (termB b.tk b.tn b.tu).length ≤ 1000 := term_sz (tnQ_of h.tn)
  have t1' : (termB b.tk b.tn b.tu).length ≤ 60 := term_len (tnQ_of h.tn)
  have t2 : (payB R b.payee b.flags).length ≤ 40 := by
    unfold payB
    by_cases e : b.payee = -1
    · rw [if_pos e]; decide
    · rw [if_neg e]
      have := firmN_le h.realm (h.payee.resolve_left e)
      split <;> simp only [List.length_append, List.length_cons, List.length_nil] <;> omega
  have t3 : (intB b.rate).length ≤ 50 := by
    unfold intB
    split
    · decide
    · have := dec_le (n := b.rate) (by have := h.rate; omega)
      simp only [List.length_append, List.length_cons, List.length_nil]
      omega
  have t4 : (othB b.parts p).length ≤ 68 := by
    obtain ⟨n, hn⟩ := Int.eq_ofNat_of_zero_le (a := b.parts) (by have := h.parts; omega)
    rw [hn]
    exact oth_le (by have := h.parts; omega)
  intro x hx
  unfold linesW at hx
  simp only [List.mem_append, List.mem_cons, List.not_mem_nil, or_false] at hx
  rcases hx with (((hx | hx) | hx) | hx) | hx
  · rcases hx with rfl | rfl | rfl | rfl | rfl | rfl <;> simp only [List.length_append, List.length_cons, List.length_nil] <;> omega
  · split at hx
    · simp only [List.mem_cons, List.not_mem_nil, or_false] at hx
      subst hx
      simp only [List.length_append, List.length_cons, List.length_nil]
      omega
    · simp at hx
  · split at hx
    · simp at hx
    · rename_i e
      have := firmN_le h.realm (h.need.resolve_left e)
      simp only [List.mem_cons, List.not_mem_nil, or_false] at hx
      subst hx
      simp only [List.length_append, List.length_cons, List.length_nil]
      omega
  · split at hx
    · simp only [List.mem_cons, List.not_mem_nil, or_false] at hx
      subst hx
      decide
    · simp at hx
  · subst hx
    simp only [List.length_append, List.length_cons, List.length_nil]
    omega
set_option maxHeartbeats 40000000 in
set_option maxRecDepth 100000 in
theorem write_x {a0 a1 a2 a3 a4 a5 a6 a7 : Option Addr} {c0 c1 c2 c3 c4 c5 c6 c7 : Nat} {R : Rlm} (b : Bl) (p : Int) (w : World) (hr : RS w a0 a1 a2 a3 a4 a5 a6 a7 c0 c1 c2 c3 c4 c5 c6 c7 R) (hF : Fit R) (hE : Ev w) (hR : Rt R b) (hp0 : 0 ≤ p) (hp1 : p < b.parts) :
    Calls Tryz.prog 46 #[.agg #[.slice a0 R.cur.length c0, .slice a1 R.cities.length c1, .slice a2 R.groups.length c2, .slice a3 R.firms.length c3, .slice a4 R.orders.length c4, .slice a5 R.usances.length c5, .slice a6 R.rates.length c6, .slice a7 R.halts.length c7], vB b, .int .i64 p] w fun r w' => r = .returned (.string (mkB (wordW R b p))) ∧ Below w.heap.size w w' := by
  obtain ⟨bU, oU, rfl, HU⟩ := wat_all hr.cur hR.cur
  obtain ⟨bC, oC, rfl, HC⟩ := wat_all hr.cities hR.city
  obtain ⟨bF, oF, rfl, HF⟩ := wat_all hr.firms hR.drawer
  have HRS := Lib.hid hr
  have HFT := Lib.hid hF
  have HE := Lib.hid hE
  have sz0 := hF.cur
  have sz1 := hF.cities
  have sz3 := hF.firms
  obtain ⟨nu, ecur⟩ : ∃ x, R.cur[b.cur.toNat]? = some x := ⟨_, List.getElem?_eq_getElem (by have := ix_iff.1 hR.cur; omega)⟩
  have Ecur := Lib.hid ecur
  have zcur : nu.size ≤ 20 := cur_sz hR.realm ecur
  have Vcur : Hid (curN R b.cur = nu.data.toList) := by show curN R _ = _; unfold curN; rw [ecur]
  have icur0 : (0 : Int) ≤ b.cur := (ix_iff.1 hR.cur).1
  have icur1 : b.cur < (R.cur.length : Int) := (ix_iff.1 hR.cur).2
  clear ecur
  obtain ⟨nc, ecity⟩ : ∃ x, R.cities[b.city.toNat]? = some x := ⟨_, List.getElem?_eq_getElem (by have := ix_iff.1 hR.city; omega)⟩
  have Ecity := Lib.hid ecity
  have zcity : nc.nm.size ≤ 20 := city_sz hR.realm ecity
  have Vcity : Hid (cityN R b.city = nc.nm.data.toList) := by show cityN R _ = _; unfold cityN; rw [ecity]
  have icity0 : (0 : Int) ≤ b.city := (ix_iff.1 hR.city).1
  have icity1 : b.city < (R.cities.length : Int) := (ix_iff.1 hR.city).2
  clear ecity
  obtain ⟨np, epay⟩ : ∃ x, R.cities[b.pay.toNat]? = some x := ⟨_, List.getElem?_eq_getElem (by have := ix_iff.1 hR.pay; omega)⟩
  have Epay := Lib.hid epay
  have zpay : np.nm.size ≤ 20 := city_sz hR.realm epay
  have Vpay : Hid (cityN R b.pay = np.nm.data.toList) := by show cityN R _ = _; unfold cityN; rw [epay]
  have ipay0 : (0 : Int) ≤ b.pay := (ix_iff.1 hR.pay).1
  have ipay1 : b.pay < (R.cities.length : Int) := (ix_iff.1 hR.pay).2
  clear epay
  obtain ⟨nd, edrawee⟩ : ∃ x, R.firms[b.drawee.toNat]? = some x := ⟨_, List.getElem?_eq_getElem (by have := ix_iff.1 hR.drawee; omega)⟩
  have Edrawee := Lib.hid edrawee
  have zdrawee : nd.nm.size ≤ 20 := firm_sz hR.realm edrawee
  have Vdrawee : Hid (firmN R b.drawee = nd.nm.data.toList) := by show firmN R _ = _; unfold firmN; rw [edrawee]
  have idrawee0 : (0 : Int) ≤ b.drawee := (ix_iff.1 hR.drawee).1
  have idrawee1 : b.drawee < (R.firms.length : Int) := (ix_iff.1 hR.drawee).2
  clear edrawee
  obtain ⟨nr, edrawer⟩ : ∃ x, R.firms[b.drawer.toNat]? = some x := ⟨_, List.getElem?_eq_getElem (by have := ix_iff.1 hR.drawer; omega)⟩
  have Edrawer := Lib.hid edrawer
  have zdrawer : nr.nm.size ≤ 20 := firm_sz hR.realm edrawer
  have Vdrawer : Hid (firmN R b.drawer = nr.nm.data.toList) := by show firmN R _ = _; unfold firmN; rw [edrawer]
  have idrawer0 : (0 : Int) ≤ b.drawer := (ix_iff.1 hR.drawer).1
  have idrawer1 : b.drawer < (R.firms.length : Int) := (ix_iff.1 hR.drawer).2
  clear edrawer
  have HRT := Lib.hid hR
  have hday := hR.day
  have hsum := hR.sum
  have hrate := hR.rate
  have hparts := hR.parts
  have hflags := hR.flags
  have htn := Lib.hid (tnQ_of hR.tn)
  have hpay := Lib.hid hR.payee
  have hneed := Lib.hid hR.need
  have hrealm := Lib.hid hR.realm
  have X0 := Lib.hid (BB.new (w.alloc (.cells #[.slice (some ⟨bU, oU, none⟩) R.cur.length c0, .slice (some ⟨bC, oC, none⟩) R.cities.length c1, .slice a2 R.groups.length c2, .slice (some ⟨bF, oF, none⟩) R.firms.length c3, .slice a4 R.orders.length c4, .slice a5 R.usances.length c5, .slice a6 R.rates.length c6, .slice a7 R.halts.length c7] 31)) b (w.heap.size + 1) (by simp))
  have RB0 : Hid (RB ((w.alloc (.cells #[.slice (some ⟨bU, oU, none⟩) R.cur.length c0, .slice (some ⟨bC, oC, none⟩) R.cities.length c1, .slice a2 R.groups.length c2, .slice (some ⟨bF, oF, none⟩) R.firms.length c3, .slice a4 R.orders.length c4, .slice a5 R.usances.length c5, .slice a6 R.rates.length c6, .slice a7 R.halts.length c7] 31)).alloc (.cells #[.int .i64 b.drawer, .int .i64 b.drawee, .int .i64 b.payee, .int .i64 b.sum, .int .i64 b.cur, .int .i64 b.tk, .int .i64 b.tn, .int .i64 b.tu, .int .i64 b.day, .int .i64 b.city, .int .i64 b.pay, .int .i64 b.need, .int .i64 b.rate, .int .i64 b.flags, .int .i64 b.parts] 35)) w.heap.size (some ⟨bU, oU, none⟩) (some ⟨bC, oC, none⟩) a2 (some ⟨bF, oF, none⟩) a4 a5 a6 a7 c0 c1 c2 c3 c4 c5 c6 c7 R) := (RB.new w _ _ _ _ _ _ _ _ _ _ _ _ _ _ _ _ R).next (Below.new1 (.cells #[.int .i64 b.drawer, .int .i64 b.drawee, .int .i64 b.payee, .int .i64 b.sum, .int .i64 b.cur, .int .i64 b.tk, .int .i64 b.tn, .int .i64 b.tu, .int .i64 b.day, .int .i64 b.city, .int .i64 b.pay, .int .i64 b.need, .int .i64 b.rate, .int .i64 b.flags, .int .i64 b.parts] 35))
  have ZE : ((w.alloc (.cells #[.slice (some ⟨bU, oU, none⟩) R.cur.length c0, .slice (some ⟨bC, oC, none⟩) R.cities.length c1, .slice a2 R.groups.length c2, .slice (some ⟨bF, oF, none⟩) R.firms.length c3, .slice a4 R.orders.length c4, .slice a5 R.usances.length c5, .slice a6 R.rates.length c6, .slice a7 R.halts.length c7] 31)).alloc (.cells #[.int .i64 b.drawer, .int .i64 b.drawee, .int .i64 b.payee, .int .i64 b.sum, .int .i64 b.cur, .int .i64 b.tk, .int .i64 b.tn, .int .i64 b.tu, .int .i64 b.day, .int .i64 b.city, .int .i64 b.pay, .int .i64 b.need, .int .i64 b.rate, .int .i64 b.flags, .int .i64 b.parts] 35)).heap.size = w.heap.size + 2 := by simp
  have ZL : w.heap.size + 2 ≤ ((w.alloc (.cells #[.slice (some ⟨bU, oU, none⟩) R.cur.length c0, .slice (some ⟨bC, oC, none⟩) R.cities.length c1, .slice a2 R.groups.length c2, .slice (some ⟨bF, oF, none⟩) R.firms.length c3, .slice a4 R.orders.length c4, .slice a5 R.usances.length c5, .slice a6 R.rates.length c6, .slice a7 R.halts.length c7] 31)).alloc (.cells #[.int .i64 b.drawer, .int .i64 b.drawee, .int .i64 b.payee, .int .i64 b.sum, .int .i64 b.cur, .int .i64 b.tk, .int .i64 b.tn, .int .i64 b.tu, .int .i64 b.day, .int .i64 b.city, .int .i64 b.pay, .int .i64 b.need, .int .i64 b.rate, .int .i64 b.flags, .int .i64 b.parts] 35)).heap.size := by rw [ZE]; exact Nat.le_refl _
  have Z0 : w.heap.size ≤ w.heap.size + 2 := by omega
  have HW : Hid (Below w.heap.size w ((w.alloc (.cells #[.slice (some ⟨bU, oU, none⟩) R.cur.length c0, .slice (some ⟨bC, oC, none⟩) R.cities.length c1, .slice a2 R.groups.length c2, .slice (some ⟨bF, oF, none⟩) R.firms.length c3, .slice a4 R.orders.length c4, .slice a5 R.usances.length c5, .slice a6 R.rates.length c6, .slice a7 R.halts.length c7] 31)).alloc (.cells #[.int .i64 b.drawer, .int .i64 b.drawee, .int .i64 b.payee, .int .i64 b.sum, .int .i64 b.cur, .int .i64 b.tk, .int .i64 b.tn, .int .i64 b.tu, .int .i64 b.day, .int .i64 b.city, .int .i64 b.pay, .int .i64 b.need, .int .i64 b.rate, .int .i64 b.flags, .int .i64 b.parts] 35))) := chain (Below.new1 _) (Below.new1 _)
  have B0 := Lib.hid (Below.refl (w.heap.size + 2) ((w.alloc (.cells #[.slice (some ⟨bU, oU, none⟩) R.cur.length c0, .slice (some ⟨bC, oC, none⟩) R.cities.length c1, .slice a2 R.groups.length c2, .slice (some ⟨bF, oF, none⟩) R.firms.length c3, .slice a4 R.orders.length c4, .slice a5 R.usances.length c5, .slice a6 R.rates.length c6, .slice a7 R.halts.length c7] 31)).alloc (.cells #[.int .i64 b.drawer, .int .i64 b.drawee, .int .i64 b.payee, .int .i64 b.sum, .int .i64 b.cur, .int .i64 b.tk, .int .i64 b.tn, .int .i64 b.tu, .int .i64 b.day, .int .i64 b.city, .int .i64 b.pay, .int .i64 b.need, .int .i64 b.rate, .int .i64 b.flags, .int .i64 b.parts] 35)))
  have hpw : IntKind.i64.wrap (p + 1) = p + 1 := IntWalk.i64_in _ (by omega)
  have hor := bit_and hflags.1 hflags.2
  have hb2 := hor.2.1
  clear hr hF hE hR ZE hor
  go_enter Tryz.func46, Tryz.ntmps46
  go_upto_region 1 with fail
  go_cut [7] (fun v wx => WrRel b R p bU oU bC oC bF oF a2 a4 a5 a6 a7 c0 c1 c2 c3 c4 c5 c6 c7 w v wx)
  case first =>
    as_aux_lemma =>
      refine wp_region_held_drew (S := Below (w.heap.size + 2) ((w.alloc (.cells #[.slice (some ⟨bU, oU, none⟩) R.cur.length c0, .slice (some ⟨bC, oC, none⟩) R.cities.length c1, .slice a2 R.groups.length c2, .slice (some ⟨bF, oF, none⟩) R.firms.length c3, .slice a4 R.orders.length c4, .slice a5 R.usances.length c5, .slice a6 R.rates.length c6, .slice a7 R.halts.length c7] 31)).alloc (.cells #[.int .i64 b.drawer, .int .i64 b.drawee, .int .i64 b.payee, .int .i64 b.sum, .int .i64 b.cur, .int .i64 b.tk, .int .i64 b.tn, .int .i64 b.tu, .int .i64 b.day, .int .i64 b.city, .int .i64 b.pay, .int .i64 b.need, .int .i64 b.rate, .int .i64 b.flags, .int .i64 b.parts] 35))) (by kernel_rfl) ?_ (fun hHeld => ?_)
      · exact B0.out.drew
      refine swap_ops (ops' := wrOps) (by kernel_rfl) ?_
      refine wpAnyH_take (v := ?_) wo_0 wo_none (by kernel_rfl) (by kernel_rfl) (fun _ _ _ h => h) (Or.inl ⟨by rfl, ?_⟩) (by assumption) ?_
      rotate_left
      · intro wz hSw
        have xz := X0.out.below hSw (by omega)
        have x0 := xz.at (i := 0) rfl
        have x1 := xz.at (i := 1) rfl
        have x2 := xz.at (i := 2) rfl
        have x3 := xz.at (i := 3) rfl
        have x4 := xz.at (i := 4) rfl
        have x5 := xz.at (i := 5) rfl
        have x6 := xz.at (i := 6) rfl
        have x7 := xz.at (i := 7) rfl
        have x8 := xz.at (i := 8) rfl
        have x9 := xz.at (i := 9) rfl
        have x10 := xz.at (i := 10) rfl
        have x11 := xz.at (i := 11) rfl
        have x12 := xz.at (i := 12) rfl
        have x13 := xz.at (i := 13) rfl
        have x14 := xz.at (i := 14) rfl
        clear xz
        clear hSw
        go_simp
        try rw [if_neg (by omega)]
        try with_reducible rfl
      try simp only [Act.put, List.setIfInBounds_toArray, List.set_cons_zero, List.set_cons_succ]
      refine wpAnyH_take (v := ?_) wo_3 wo_none (by kernel_rfl) (by kernel_rfl) (fun _ _ _ h => h) (Or.inl ⟨by rfl, ?_⟩) (by assumption) ?_
      rotate_left
      · intro wz hSw
        clear hSw
        go_simp
        try rw [if_neg (by omega)]
        try with_reducible rfl
      try simp only [Act.put, List.setIfInBounds_toArray, List.set_cons_zero, List.set_cons_succ]
      refine wpAnyH_take (v := ?_) wo_4 wo_none (by kernel_rfl) (by kernel_rfl) (fun _ _ _ h => h) (Or.inl ⟨by rfl, ?_⟩) (by assumption) ?_
      rotate_left
      · intro wz hSw
        clear hSw
        go_simp
        try rw [if_neg (by omega)]
        try with_reducible rfl
      try simp only [Act.put, List.setIfInBounds_toArray, List.set_cons_zero, List.set_cons_succ]
      refine wpAnyH_take (v := ?_) wo_8 wo_none (by kernel_rfl) (by kernel_rfl) (fun _ _ _ h => h) (Or.inl ⟨by rfl, ?_⟩) (by assumption) ?_
      rotate_left
      · intro wz hSw
        clear hSw
        go_simp
        try rw [if_neg (by omega)]
        try with_reducible rfl
      try simp only [Act.put, List.setIfInBounds_toArray, List.set_cons_zero, List.set_cons_succ]
      refine wpAnyH_take (v := ?_) wo_9 wo_none (by kernel_rfl) (by kernel_rfl) (fun _ _ _ h => h) (Or.inl ⟨by rfl, ?_⟩) (by assumption) ?_
      rotate_left
      · intro wz hSw
        have xz := X0.out.below hSw (by omega)
        have x14 := xz.at (i := 14) rfl
        clear xz
        clear hSw
        go_simp
        try rw [if_neg (by omega)]
        try with_reducible rfl
      try simp only [Act.put, List.setIfInBounds_toArray, List.set_cons_zero, List.set_cons_succ]
      refine wpAnyH_take (v := ?_) wo_12 wo_none (by kernel_rfl) (by kernel_rfl) (fun _ _ _ h => h) (Or.inl ⟨by rfl, ?_⟩) (by assumption) ?_
      rotate_left
      · intro wz hSw
        clear hSw
        go_simp
        try rw [if_neg (by omega)]
        try with_reducible rfl
      try simp only [Act.put, List.setIfInBounds_toArray, List.set_cons_zero, List.set_cons_succ]
      refine wpAnyH_take (v := ?_) wo_13 wo_none (by kernel_rfl) (by kernel_rfl) (fun _ _ _ h => h) (Or.inl ⟨by rfl, ?_⟩) (by assumption) ?_
      rotate_left
      · intro wz hSw
        have kz := RB0.out.low hSw (by omega)
        have k1 := kz.b1
        clear kz
        clear hSw
        go_simp
        try rw [if_neg (by omega)]
        try with_reducible rfl
      try simp only [Act.put, List.setIfInBounds_toArray, List.set_cons_zero, List.set_cons_succ]
      refine wpAnyH_take (v := ?_) wo_14 wo_none (by kernel_rfl) (by kernel_rfl) (fun _ _ _ h => h) (Or.inl ⟨by rfl, ?_⟩) (by assumption) ?_
      rotate_left
      · intro wz hSw
        clear hSw
        go_simp
        try rw [if_neg (by omega)]
        try with_reducible rfl
      try simp only [Act.put, List.setIfInBounds_toArray, List.set_cons_zero, List.set_cons_succ]
      refine wpAnyH_take (v := ?_) wo_15 wo_none (by kernel_rfl) (by kernel_rfl) (fun _ _ _ h => h) (Or.inl ⟨by rfl, ?_⟩) (by assumption) ?_
      rotate_left
      · intro wz hSw
        have xz := X0.out.below hSw (by omega)
        have x9 := xz.at (i := 9) rfl
        clear xz
        clear hSw
        go_simp
        try rw [if_neg (by omega)]
        try with_reducible rfl
      try simp only [Act.put, List.setIfInBounds_toArray, List.set_cons_zero, List.set_cons_succ]
      refine wpAnyH_take (v := ?_) wo_16 wo_none (by kernel_rfl) (by kernel_rfl) (fun _ _ _ h => h) (Or.inl ⟨by rfl, ?_⟩) (by assumption) ?_
      rotate_left
      · intro wz hSw
        clear hSw
        go_simp
        try rw [if_neg (by omega)]
        try with_reducible rfl
      try simp only [Act.put, List.setIfInBounds_toArray, List.set_cons_zero, List.set_cons_succ]
      refine wpAnyH_take (v := ?_) wo_17 wo_none (by kernel_rfl) (by kernel_rfl) (fun _ _ _ h => h) (Or.inl ⟨by rfl, ?_⟩) (by assumption) ?_
      rotate_left
      · intro wz hSw
        clear hSw
        go_simp
        try rw [if_neg (by omega)]
        try with_reducible rfl
      try simp only [Act.put, List.setIfInBounds_toArray, List.set_cons_zero, List.set_cons_succ]
      refine wpAnyH_take (v := ?_) wo_18 wo_none (by kernel_rfl) (by kernel_rfl) (fun _ _ _ h => h) (Or.inl ⟨by rfl, ?_⟩) (by assumption) ?_
      rotate_left
      · intro wz hSw
        have mcity : wz.cell? ⟨bC, oC + b.city.toNat * 6, none⟩ = some (.string nc.nm) := cell_up (HW.out.trans (hSw.mono Z0)) (HC.out _ _ Ecity.out 0 _ rfl)
        clear hSw
        go_simp
        try rw [if_neg (by omega)]
        try with_reducible rfl
      try simp only [Act.put, List.setIfInBounds_toArray, List.set_cons_zero, List.set_cons_succ]
      refine wpAnyH_take (v := ?_) wo_19 wo_none (by kernel_rfl) (by kernel_rfl) (fun _ _ _ h => h) (Or.inl ⟨by rfl, ?_⟩) (by assumption) ?_
      rotate_left
      · intro wz hSw
        clear hSw
        go_simp
        try rw [if_neg (by omega)]
        try with_reducible rfl
      try simp only [Act.put, List.setIfInBounds_toArray, List.set_cons_zero, List.set_cons_succ]
      refine wpAnyH_take (v := ?_) wo_20 wo_none (by kernel_rfl) (by kernel_rfl) (fun _ _ _ h => h) (Or.inl ⟨by rfl, ?_⟩) (by assumption) ?_
      rotate_left
      · intro wz hSw
        clear hSw
        go_simp
        try rw [if_neg (by omega)]
        try with_reducible rfl
      try simp only [Act.put, List.setIfInBounds_toArray, List.set_cons_zero, List.set_cons_succ]
      refine wpAnyH_take (v := ?_) wo_21 wo_none (by kernel_rfl) (by kernel_rfl) (fun _ _ _ h => h) (Or.inl ⟨by rfl, ?_⟩) (by assumption) ?_
      rotate_left
      · intro wz hSw
        clear hSw
        go_simp
        try rw [if_neg (by omega)]
        try with_reducible rfl
      try simp only [Act.put, List.setIfInBounds_toArray, List.set_cons_zero, List.set_cons_succ]
      refine wpAnyH_take (v := ?_) wo_22 wo_none (by kernel_rfl) (by kernel_rfl) (fun _ _ _ h => h) (Or.inl ⟨by rfl, ?_⟩) (by assumption) ?_
      rotate_left
      · intro wz hSw
        have xz := X0.out.below hSw (by omega)
        have x8 := xz.at (i := 8) rfl
        clear xz
        clear hSw
        go_simp
        try rw [if_neg (by omega)]
        try with_reducible rfl
      try simp only [Act.put, List.setIfInBounds_toArray, List.set_cons_zero, List.set_cons_succ]
      refine wpAnyH_take (v := ?_) wo_25 wo_none (by kernel_rfl) (by kernel_rfl) (fun _ _ _ h => h) (Or.inl ⟨by rfl, ?_⟩) (by assumption) ?_
      rotate_left
      · intro wz hSw
        clear hSw
        go_simp
        try rw [if_neg (by omega)]
        try with_reducible rfl
      try simp only [Act.put, List.setIfInBounds_toArray, List.set_cons_zero, List.set_cons_succ]
      refine wpAnyH_take (v := ?_) wo_26 wo_none (by kernel_rfl) (by kernel_rfl) (fun _ _ _ h => h) (Or.inl ⟨by rfl, ?_⟩) (by assumption) ?_
      rotate_left
      · intro wz hSw
        have xz := X0.out.below hSw (by omega)
        have x5 := xz.at (i := 5) rfl
        have x6 := xz.at (i := 6) rfl
        have x7 := xz.at (i := 7) rfl
        clear xz
        clear hSw
        go_simp
        try rw [if_neg (by omega)]
        try with_reducible rfl
      try simp only [Act.put, List.setIfInBounds_toArray, List.set_cons_zero, List.set_cons_succ]
      refine wpAnyH_take (v := ?_) wo_29 wo_none (by kernel_rfl) (by kernel_rfl) (fun _ _ _ h => h) (Or.inl ⟨by rfl, ?_⟩) (by assumption) ?_
      rotate_left
      · intro wz hSw
        have kz := RB0.out.low hSw (by omega)
        have k0 := kz.b0
        have k1 := kz.b1
        have k2 := kz.b2
        have k3 := kz.b3
        have k4 := kz.b4
        have k5 := kz.b5
        have k6 := kz.b6
        have k7 := kz.b7
        clear kz
        clear hSw
        go_simp
        try rw [if_neg (by omega)]
        try with_reducible rfl
      try simp only [Act.put, List.setIfInBounds_toArray, List.set_cons_zero, List.set_cons_succ]
      refine wpAnyH_take (v := ?_) wo_30 wo_none (by kernel_rfl) (by kernel_rfl) (fun _ _ _ h => h) (Or.inl ⟨by rfl, ?_⟩) (by assumption) ?_
      rotate_left
      · intro wz hSw
        have xz := X0.out.below hSw (by omega)
        have x0 := xz.at (i := 0) rfl
        have x1 := xz.at (i := 1) rfl
        have x2 := xz.at (i := 2) rfl
        have x3 := xz.at (i := 3) rfl
        have x4 := xz.at (i := 4) rfl
        have x5 := xz.at (i := 5) rfl
        have x6 := xz.at (i := 6) rfl
        have x7 := xz.at (i := 7) rfl
        have x8 := xz.at (i := 8) rfl
        have x9 := xz.at (i := 9) rfl
        have x10 := xz.at (i := 10) rfl
        have x11 := xz.at (i := 11) rfl
        have x12 := xz.at (i := 12) rfl
        have x13 := xz.at (i := 13) rfl
        have x14 := xz.at (i := 14) rfl
        clear xz
        clear hSw
        go_simp
        try rw [if_neg (by omega)]
        try with_reducible rfl
      try simp only [Act.put, List.setIfInBounds_toArray, List.set_cons_zero, List.set_cons_succ]
      refine wpAnyH_take (v := ?_) wo_33 wo_none (by kernel_rfl) (by kernel_rfl) (fun _ _ _ h => h) (Or.inl ⟨by rfl, ?_⟩) (by assumption) ?_
      rotate_left
      · intro wz hSw
        clear hSw
        go_simp
        try rw [if_neg (by omega)]
        try with_reducible rfl
      try simp only [Act.put, List.setIfInBounds_toArray, List.set_cons_zero, List.set_cons_succ]
      refine wpAnyH_take (v := ?_) wo_34 wo_none (by kernel_rfl) (by kernel_rfl) (fun _ _ _ h => h) (Or.inl ⟨by rfl, ?_⟩) (by assumption) ?_
      rotate_left
      · intro wz hSw
        have xz := X0.out.below hSw (by omega)
        have x3 := xz.at (i := 3) rfl
        clear xz
        clear hSw
        go_simp
        try rw [if_neg (by omega)]
        try with_reducible rfl
      try simp only [Act.put, List.setIfInBounds_toArray, List.set_cons_zero, List.set_cons_succ]
      refine wpAnyH_take (v := ?_) wo_37 wo_none (by kernel_rfl) (by kernel_rfl) (fun _ _ _ h => h) (Or.inl ⟨by rfl, ?_⟩) (by assumption) ?_
      rotate_left
      · intro wz hSw
        clear hSw
        go_simp
        try rw [if_neg (by omega)]
        try with_reducible rfl
      try simp only [Act.put, List.setIfInBounds_toArray, List.set_cons_zero, List.set_cons_succ]
      refine wpAnyH_take (v := ?_) wo_38 wo_none (by kernel_rfl) (by kernel_rfl) (fun _ _ _ h => h) (Or.inl ⟨by rfl, ?_⟩) (by assumption) ?_
      rotate_left
      · intro wz hSw
        have kz := RB0.out.low hSw (by omega)
        have k0 := kz.b0
        clear kz
        clear hSw
        go_simp
        try rw [if_neg (by omega)]
        try with_reducible rfl
      try simp only [Act.put, List.setIfInBounds_toArray, List.set_cons_zero, List.set_cons_succ]
      refine wpAnyH_take (v := ?_) wo_39 wo_none (by kernel_rfl) (by kernel_rfl) (fun _ _ _ h => h) (Or.inl ⟨by rfl, ?_⟩) (by assumption) ?_
      rotate_left
      · intro wz hSw
        clear hSw
        go_simp
        try rw [if_neg (by omega)]
        try with_reducible rfl
      try simp only [Act.put, List.setIfInBounds_toArray, List.set_cons_zero, List.set_cons_succ]
      refine wpAnyH_take (v := ?_) wo_40 wo_none (by kernel_rfl) (by kernel_rfl) (fun _ _ _ h => h) (Or.inl ⟨by rfl, ?_⟩) (by assumption) ?_
      rotate_left
      · intro wz hSw
        have xz := X0.out.below hSw (by omega)
        have x4 := xz.at (i := 4) rfl
        clear xz
        clear hSw
        go_simp
        try rw [if_neg (by omega)]
        try with_reducible rfl
      try simp only [Act.put, List.setIfInBounds_toArray, List.set_cons_zero, List.set_cons_succ]
      refine wpAnyH_take (v := ?_) wo_41 wo_none (by kernel_rfl) (by kernel_rfl) (fun _ _ _ h => h) (Or.inl ⟨by rfl, ?_⟩) (by assumption) ?_
      rotate_left
      · intro wz hSw
        clear hSw
        go_simp
        try rw [if_neg (by omega)]
        try with_reducible rfl
      try simp only [Act.put, List.setIfInBounds_toArray, List.set_cons_zero, List.set_cons_succ]
      refine wpAnyH_take (v := ?_) wo_42 wo_none (by kernel_rfl) (by kernel_rfl) (fun _ _ _ h => h) (Or.inl ⟨by rfl, ?_⟩) (by assumption) ?_
      rotate_left
      · intro wz hSw
        have mcur : wz.cell? ⟨bU, oU + b.cur.toNat, none⟩ = some (.string nu) := cell_up (HW.out.trans (hSw.mono Z0)) (by have := HU.out _ _ Ecur.out 0 _ rfl; rw [Nat.mul_one, Nat.add_zero] at this; exact this)
        clear hSw
        go_simp
        try rw [if_neg (by omega)]
        try with_reducible rfl
      try simp only [Act.put, List.setIfInBounds_toArray, List.set_cons_zero, List.set_cons_succ]
      refine wpAnyH_take (v := ?_) wo_44 wo_none (by kernel_rfl) (by kernel_rfl) (fun _ _ _ h => h) (Or.inl ⟨by rfl, ?_⟩) (by assumption) ?_
      rotate_left
      · intro wz hSw
        have xz := X0.out.below hSw (by omega)
        have x0 := xz.at (i := 0) rfl
        have x1 := xz.at (i := 1) rfl
        have x2 := xz.at (i := 2) rfl
        have x3 := xz.at (i := 3) rfl
        have x4 := xz.at (i := 4) rfl
        have x5 := xz.at (i := 5) rfl
        have x6 := xz.at (i := 6) rfl
        have x7 := xz.at (i := 7) rfl
        have x8 := xz.at (i := 8) rfl
        have x9 := xz.at (i := 9) rfl
        have x10 := xz.at (i := 10) rfl
        have x11 := xz.at (i := 11) rfl
        have x12 := xz.at (i := 12) rfl
        have x13 := xz.at (i := 13) rfl
        have x14 := xz.at (i := 14) rfl
        clear xz
        clear hSw
        go_simp
        try rw [if_neg (by omega)]
        try with_reducible rfl
      try simp only [Act.put, List.setIfInBounds_toArray, List.set_cons_zero, List.set_cons_succ]
      refine wpAnyH_take (v := ?_) wo_47 wo_none (by kernel_rfl) (by kernel_rfl) (fun _ _ _ h => h) (Or.inl ⟨by rfl, ?_⟩) (by assumption) ?_
      rotate_left
      · intro wz hSw
        clear hSw
        go_simp
        try rw [if_neg (by omega)]
        try with_reducible rfl
      try simp only [Act.put, List.setIfInBounds_toArray, List.set_cons_zero, List.set_cons_succ]
      refine wpAnyH_take (v := ?_) wo_48 wo_none (by kernel_rfl) (by kernel_rfl) (fun _ _ _ h => h) (Or.inl ⟨by rfl, ?_⟩) (by assumption) ?_
      rotate_left
      · intro wz hSw
        have kz := RB0.out.low hSw (by omega)
        have k3 := kz.b3
        clear kz
        clear hSw
        go_simp
        try rw [if_neg (by omega)]
        try with_reducible rfl
      try simp only [Act.put, List.setIfInBounds_toArray, List.set_cons_zero, List.set_cons_succ]
      refine wpAnyH_take (v := ?_) wo_49 wo_none (by kernel_rfl) (by kernel_rfl) (fun _ _ _ h => h) (Or.inl ⟨by rfl, ?_⟩) (by assumption) ?_
      rotate_left
      · intro wz hSw
        clear hSw
        go_simp
        try rw [if_neg (by omega)]
        try with_reducible rfl
      try simp only [Act.put, List.setIfInBounds_toArray, List.set_cons_zero, List.set_cons_succ]
      refine wpAnyH_take (v := ?_) wo_50 wo_none (by kernel_rfl) (by kernel_rfl) (fun _ _ _ h => h) (Or.inl ⟨by rfl, ?_⟩) (by assumption) ?_
      rotate_left
      · intro wz hSw
        have xz := X0.out.below hSw (by omega)
        have x1 := xz.at (i := 1) rfl
        clear xz
        clear hSw
        go_simp
        try rw [if_neg (by omega)]
        try with_reducible rfl
      try simp only [Act.put, List.setIfInBounds_toArray, List.set_cons_zero, List.set_cons_succ]
      refine wpAnyH_take (v := ?_) wo_51 wo_none (by kernel_rfl) (by kernel_rfl) (fun _ _ _ h => h) (Or.inl ⟨by rfl, ?_⟩) (by assumption) ?_
      rotate_left
      · intro wz hSw
        clear hSw
        go_simp
        try rw [if_neg (by omega)]
        try with_reducible rfl
      try simp only [Act.put, List.setIfInBounds_toArray, List.set_cons_zero, List.set_cons_succ]
      refine wpAnyH_take (v := ?_) wo_52 wo_none (by kernel_rfl) (by kernel_rfl) (fun _ _ _ h => h) (Or.inl ⟨by rfl, ?_⟩) (by assumption) ?_
      rotate_left
      · intro wz hSw
        clear hSw
        go_simp
        try rw [if_neg (by omega)]
        try with_reducible rfl
      try simp only [Act.put, List.setIfInBounds_toArray, List.set_cons_zero, List.set_cons_succ]
      refine wpAnyH_take (v := ?_) wo_53 wo_none (by kernel_rfl) (by kernel_rfl) (fun _ _ _ h => h) (Or.inl ⟨by rfl, ?_⟩) (by assumption) ?_
      rotate_left
      · intro wz hSw
        have mdrawee : wz.cell? ⟨bF, oF + b.drawee.toNat * 3, none⟩ = some (.string nd.nm) := cell_up (HW.out.trans (hSw.mono Z0)) (HF.out _ _ Edrawee.out 0 _ rfl)
        clear hSw
        go_simp
        try rw [if_neg (by omega)]
        try with_reducible rfl
      try simp only [Act.put, List.setIfInBounds_toArray, List.set_cons_zero, List.set_cons_succ]
      refine wpAnyH_take (v := ?_) wo_54 wo_none (by kernel_rfl) (by kernel_rfl) (fun _ _ _ h => h) (Or.inl ⟨by rfl, ?_⟩) (by assumption) ?_
      rotate_left
      · intro wz hSw
        clear hSw
        go_simp
        try rw [if_neg (by omega)]
        try with_reducible rfl
      try simp only [Act.put, List.setIfInBounds_toArray, List.set_cons_zero, List.set_cons_succ]
      refine wpAnyH_take (v := ?_) wo_55 wo_none (by kernel_rfl) (by kernel_rfl) (fun _ _ _ h => h) (Or.inl ⟨by rfl, ?_⟩) (by assumption) ?_
      rotate_left
      · intro wz hSw
        clear hSw
        go_simp
        try rw [if_neg (by omega)]
        try with_reducible rfl
      try simp only [Act.put, List.setIfInBounds_toArray, List.set_cons_zero, List.set_cons_succ]
      refine wpAnyH_take (v := ?_) wo_56 wo_none (by kernel_rfl) (by kernel_rfl) (fun _ _ _ h => h) (Or.inl ⟨by rfl, ?_⟩) (by assumption) ?_
      rotate_left
      · intro wz hSw
        clear hSw
        go_simp
        try rw [if_neg (by omega)]
        try with_reducible rfl
      try simp only [Act.put, List.setIfInBounds_toArray, List.set_cons_zero, List.set_cons_succ]
      refine wpAnyH_take (v := ?_) wo_57 wo_none (by kernel_rfl) (by kernel_rfl) (fun _ _ _ h => h) (Or.inl ⟨by rfl, ?_⟩) (by assumption) ?_
      rotate_left
      · intro wz hSw
        have kz := RB0.out.low hSw (by omega)
        have k1 := kz.b1
        clear kz
        clear hSw
        go_simp
        try rw [if_neg (by omega)]
        try with_reducible rfl
      try simp only [Act.put, List.setIfInBounds_toArray, List.set_cons_zero, List.set_cons_succ]
      refine wpAnyH_take (v := ?_) wo_58 wo_none (by kernel_rfl) (by kernel_rfl) (fun _ _ _ h => h) (Or.inl ⟨by rfl, ?_⟩) (by assumption) ?_
      rotate_left
      · intro wz hSw
        clear hSw
        go_simp
        try rw [if_neg (by omega)]
        try with_reducible rfl
      try simp only [Act.put, List.setIfInBounds_toArray, List.set_cons_zero, List.set_cons_succ]
      refine wpAnyH_take (v := ?_) wo_59 wo_none (by kernel_rfl) (by kernel_rfl) (fun _ _ _ h => h) (Or.inl ⟨by rfl, ?_⟩) (by assumption) ?_
      rotate_left
      · intro wz hSw
        have xz := X0.out.below hSw (by omega)
        have x10 := xz.at (i := 10) rfl
        clear xz
        clear hSw
        go_simp
        try rw [if_neg (by omega)]
        try with_reducible rfl
      try simp only [Act.put, List.setIfInBounds_toArray, List.set_cons_zero, List.set_cons_succ]
      refine wpAnyH_take (v := ?_) wo_60 wo_none (by kernel_rfl) (by kernel_rfl) (fun _ _ _ h => h) (Or.inl ⟨by rfl, ?_⟩) (by assumption) ?_
      rotate_left
      · intro wz hSw
        clear hSw
        go_simp
        try rw [if_neg (by omega)]
        try with_reducible rfl
      try simp only [Act.put, List.setIfInBounds_toArray, List.set_cons_zero, List.set_cons_succ]
      refine wpAnyH_take (v := ?_) wo_61 wo_none (by kernel_rfl) (by kernel_rfl) (fun _ _ _ h => h) (Or.inl ⟨by rfl, ?_⟩) (by assumption) ?_
      rotate_left
      · intro wz hSw
        clear hSw
        go_simp
        try rw [if_neg (by omega)]
        try with_reducible rfl
      try simp only [Act.put, List.setIfInBounds_toArray, List.set_cons_zero, List.set_cons_succ]
      refine wpAnyH_take (v := ?_) wo_62 wo_none (by kernel_rfl) (by kernel_rfl) (fun _ _ _ h => h) (Or.inl ⟨by rfl, ?_⟩) (by assumption) ?_
      rotate_left
      · intro wz hSw
        have mpay : wz.cell? ⟨bC, oC + b.pay.toNat * 6, none⟩ = some (.string np.nm) := cell_up (HW.out.trans (hSw.mono Z0)) (HC.out _ _ Epay.out 0 _ rfl)
        clear hSw
        go_simp
        try rw [if_neg (by omega)]
        try with_reducible rfl
      try simp only [Act.put, List.setIfInBounds_toArray, List.set_cons_zero, List.set_cons_succ]
      refine wpAnyH_take (v := ?_) wo_63 wo_none (by kernel_rfl) (by kernel_rfl) (fun _ _ _ h => h) (Or.inl ⟨by rfl, ?_⟩) (by assumption) ?_
      rotate_left
      · intro wz hSw
        clear hSw
        go_simp
        try rw [if_neg (by omega)]
        try with_reducible rfl
      try simp only [Act.put, List.setIfInBounds_toArray, List.set_cons_zero, List.set_cons_succ]
      refine wpAnyH_ready (rs := [1]) (by kernel_rfl) (by simp) (AllReadyH.cons wo_1 (fun K hK => ?_) AllReadyH.nil)
      rw [if_pos (by rfl)]
      go_simp
      (go_at_call 75; refine (title_x b _ hflags.1 hflags.2).mono ?_; rintro r w1 ⟨rfl, cc1⟩)
      try go_wp2_with fail
      have B1 : Hid (Below (w.heap.size + 2) ((w.alloc (.cells #[.slice (some ⟨bU, oU, none⟩) R.cur.length c0, .slice (some ⟨bC, oC, none⟩) R.cities.length c1, .slice a2 R.groups.length c2, .slice (some ⟨bF, oF, none⟩) R.firms.length c3, .slice a4 R.orders.length c4, .slice a5 R.usances.length c5, .slice a6 R.rates.length c6, .slice a7 R.halts.length c7] 31)).alloc (.cells #[.int .i64 b.drawer, .int .i64 b.drawee, .int .i64 b.payee, .int .i64 b.sum, .int .i64 b.cur, .int .i64 b.tk, .int .i64 b.tn, .int .i64 b.tu, .int .i64 b.day, .int .i64 b.city, .int .i64 b.pay, .int .i64 b.need, .int .i64 b.rate, .int .i64 b.flags, .int .i64 b.parts] 35)) w1) := low_up ((B0.out : Below (w.heap.size + 2) ((w.alloc (.cells #[.slice (some ⟨bU, oU, none⟩) R.cur.length c0, .slice (some ⟨bC, oC, none⟩) R.cities.length c1, .slice a2 R.groups.length c2, .slice (some ⟨bF, oF, none⟩) R.firms.length c3, .slice a4 R.orders.length c4, .slice a5 R.usances.length c5, .slice a6 R.rates.length c6, .slice a7 R.halts.length c7] 31)).alloc (.cells #[.int .i64 b.drawer, .int .i64 b.drawee, .int .i64 b.payee, .int .i64 b.sum, .int .i64 b.cur, .int .i64 b.tk, .int .i64 b.tn, .int .i64 b.tu, .int .i64 b.day, .int .i64 b.city, .int .i64 b.pay, .int .i64 b.need, .int .i64 b.rate, .int .i64 b.flags, .int .i64 b.parts] 35)) ((w.alloc (.cells #[.slice (some ⟨bU, oU, none⟩) R.cur.length c0, .slice (some ⟨bC, oC, none⟩) R.cities.length c1, .slice a2 R.groups.length c2, .slice (some ⟨bF, oF, none⟩) R.firms.length c3, .slice a4 R.orders.length c4, .slice a5 R.usances.length c5, .slice a6 R.rates.length c6, .slice a7 R.halts.length c7] 31)).alloc (.cells #[.int .i64 b.drawer, .int .i64 b.drawee, .int .i64 b.payee, .int .i64 b.sum, .int .i64 b.cur, .int .i64 b.tk, .int .i64 b.tn, .int .i64 b.tu, .int .i64 b.day, .int .i64 b.city, .int .i64 b.pay, .int .i64 b.need, .int .i64 b.rate, .int .i64 b.flags, .int .i64 b.parts] 35))).drew) cc1 ZL
      clear cc1
      obtain ⟨s1, S1⟩ : ∃ s : B, s = mkB (titleB b.flags) := ⟨_, rfl⟩
      rw [← S1]
      have z1 : s1.size ≤ 1000 := by rw [S1]; exact title_sz
      replace S1 := Lib.hid S1
      refine hK.out _ _ ?_ (fun hHeld => ?_)
      · exact B1.out
      clear hK K
      try simp only [Act.put, List.setIfInBounds_toArray, List.set_cons_zero, List.set_cons_succ]
      refine wpAnyH_take (v := ?_) wo_2 wo_none (by kernel_rfl) (by kernel_rfl) (fun _ _ _ h => h) (Or.inl ⟨by rfl, ?_⟩) (by assumption) ?_
      rotate_left
      · intro wz hSw
        clear hSw
        go_simp
        try rw [if_neg (by omega)]
        try with_reducible rfl
      try simp only [Act.put, List.setIfInBounds_toArray, List.set_cons_zero, List.set_cons_succ]
      refine wpAnyH_ready (rs := [5]) (by kernel_rfl) (by simp) (AllReadyH.cons wo_5 (fun K hK => ?_) AllReadyH.nil)
      rw [if_pos (by rfl)]
      go_simp
      (go_at_call 76; refine (itoa_x (p + 1) _ (HE.out.next (HW.out.trans (B1.out.mono Z0))).tb (by omega) (by omega)).mono ?_; rintro r w2 ⟨rfl, cc2⟩)
      try go_wp2_with fail
      have B2 : Hid (Below (w.heap.size + 2) ((w.alloc (.cells #[.slice (some ⟨bU, oU, none⟩) R.cur.length c0, .slice (some ⟨bC, oC, none⟩) R.cities.length c1, .slice a2 R.groups.length c2, .slice (some ⟨bF, oF, none⟩) R.firms.length c3, .slice a4 R.orders.length c4, .slice a5 R.usances.length c5, .slice a6 R.rates.length c6, .slice a7 R.halts.length c7] 31)).alloc (.cells #[.int .i64 b.drawer, .int .i64 b.drawee, .int .i64 b.payee, .int .i64 b.sum, .int .i64 b.cur, .int .i64 b.tk, .int .i64 b.tn, .int .i64 b.tu, .int .i64 b.day, .int .i64 b.city, .int .i64 b.pay, .int .i64 b.need, .int .i64 b.rate, .int .i64 b.flags, .int .i64 b.parts] 35)) w2) := low_up B1.out cc2 ZL
      clear cc2
      obtain ⟨s2, S2⟩ : ∃ s : B, s = mkB (dec (p + 1)) := ⟨_, rfl⟩
      rw [← S2]
      have z2 : s2.size ≤ 1000 := by rw [S2]; exact dec_sz (by omega)
      replace S2 := Lib.hid S2
      refine hK.out _ _ ?_ (fun hHeld => ?_)
      · exact B2.out
      clear hK K
      try simp only [Act.put, List.setIfInBounds_toArray, List.set_cons_zero, List.set_cons_succ]
      refine wpAnyH_take (v := ?_) wo_6 wo_none (by kernel_rfl) (by kernel_rfl) (fun _ _ _ h => h) (Or.inl ⟨by rfl, ?_⟩) (by assumption) ?_
      rotate_left
      · intro wz hSw
        clear hSw
        go_simp
        try rw [if_neg (by omega)]
        try with_reducible rfl
      try simp only [Act.put, List.setIfInBounds_toArray, List.set_cons_zero, List.set_cons_succ]
      refine wpAnyH_take (v := ?_) wo_7 wo_none (by kernel_rfl) (by kernel_rfl) (fun _ _ _ h => h) (Or.inl ⟨by rfl, ?_⟩) (by assumption) ?_
      rotate_left
      · intro wz hSw
        clear hSw
        go_simp
        try rw [if_neg (by omega)]
        try with_reducible rfl
      try simp only [Act.put, List.setIfInBounds_toArray, List.set_cons_zero, List.set_cons_succ]
      refine wpAnyH_ready (rs := [10]) (by kernel_rfl) (by simp) (AllReadyH.cons wo_10 (fun K hK => ?_) AllReadyH.nil)
      rw [if_pos (by rfl)]
      go_simp
      (go_at_call 76; refine (itoa_x b.parts _ (HE.out.next (HW.out.trans (B2.out.mono Z0))).tb (by omega) (by omega)).mono ?_; rintro r w3 ⟨rfl, cc3⟩)
      try go_wp2_with fail
      have B3 : Hid (Below (w.heap.size + 2) ((w.alloc (.cells #[.slice (some ⟨bU, oU, none⟩) R.cur.length c0, .slice (some ⟨bC, oC, none⟩) R.cities.length c1, .slice a2 R.groups.length c2, .slice (some ⟨bF, oF, none⟩) R.firms.length c3, .slice a4 R.orders.length c4, .slice a5 R.usances.length c5, .slice a6 R.rates.length c6, .slice a7 R.halts.length c7] 31)).alloc (.cells #[.int .i64 b.drawer, .int .i64 b.drawee, .int .i64 b.payee, .int .i64 b.sum, .int .i64 b.cur, .int .i64 b.tk, .int .i64 b.tn, .int .i64 b.tu, .int .i64 b.day, .int .i64 b.city, .int .i64 b.pay, .int .i64 b.need, .int .i64 b.rate, .int .i64 b.flags, .int .i64 b.parts] 35)) w3) := low_up B2.out cc3 ZL
      clear cc3
      obtain ⟨s3, S3⟩ : ∃ s : B, s = mkB (dec b.parts) := ⟨_, rfl⟩
      rw [← S3]
      have z3 : s3.size ≤ 1000 := by rw [S3]; exact dec_sz (by omega)
      replace S3 := Lib.hid S3
      refine hK.out _ _ ?_ (fun hHeld => ?_)
      · exact B3.out
      clear hK K
      try simp only [Act.put, List.setIfInBounds_toArray, List.set_cons_zero, List.set_cons_succ]
      refine wpAnyH_take (v := ?_) wo_11 wo_none (by kernel_rfl) (by kernel_rfl) (fun _ _ _ h => h) (Or.inl ⟨by rfl, ?_⟩) (by assumption) ?_
      rotate_left
      · intro wz hSw
        clear hSw
        go_simp
        try rw [if_neg (by omega)]
        try with_reducible rfl
      try simp only [Act.put, List.setIfInBounds_toArray, List.set_cons_zero, List.set_cons_succ]
      refine wpAnyH_ready (rs := [23]) (by kernel_rfl) (by simp) (AllReadyH.cons wo_23 (fun K hK => ?_) AllReadyH.nil)
      rw [if_pos (by rfl)]
      go_simp
      (go_at_call 77; refine (date_x b.day _ (HE.out.next (HW.out.trans (B3.out.mono Z0))) hday.1 hday.2).mono ?_; rintro r w4 ⟨rfl, cc4⟩)
      try go_wp2_with fail
      have B4 : Hid (Below (w.heap.size + 2) ((w.alloc (.cells #[.slice (some ⟨bU, oU, none⟩) R.cur.length c0, .slice (some ⟨bC, oC, none⟩) R.cities.length c1, .slice a2 R.groups.length c2, .slice (some ⟨bF, oF, none⟩) R.firms.length c3, .slice a4 R.orders.length c4, .slice a5 R.usances.length c5, .slice a6 R.rates.length c6, .slice a7 R.halts.length c7] 31)).alloc (.cells #[.int .i64 b.drawer, .int .i64 b.drawee, .int .i64 b.payee, .int .i64 b.sum, .int .i64 b.cur, .int .i64 b.tk, .int .i64 b.tn, .int .i64 b.tu, .int .i64 b.day, .int .i64 b.city, .int .i64 b.pay, .int .i64 b.need, .int .i64 b.rate, .int .i64 b.flags, .int .i64 b.parts] 35)) w4) := low_up B3.out cc4 ZL
      clear cc4
      obtain ⟨s4, S4⟩ : ∃ s : B, s = mkB (dateB b.day) := ⟨_, rfl⟩
      rw [← S4]
      have z4 : s4.size ≤ 1000 := by rw [S4]; exact date_sz hday.1 hday.2
      replace S4 := Lib.hid S4
      refine hK.out _ _ ?_ (fun hHeld => ?_)
      · exact B4.out
      clear hK K
      try simp only [Act.put, List.setIfInBounds_toArray, List.set_cons_zero, List.set_cons_succ]
      refine wpAnyH_take (v := ?_) wo_24 wo_none (by kernel_rfl) (by kernel_rfl) (fun _ _ _ h => h) (Or.inl ⟨by rfl, ?_⟩) (by assumption) ?_
      rotate_left
      · intro wz hSw
        clear hSw
        go_simp
        try rw [if_neg (by omega)]
        try with_reducible rfl
      try simp only [Act.put, List.setIfInBounds_toArray, List.set_cons_zero, List.set_cons_succ]
      refine wpAnyH_ready (rs := [27]) (by kernel_rfl) (by simp) (AllReadyH.cons wo_27 (fun K hK => ?_) AllReadyH.nil)
      rw [if_pos (by rfl)]
      go_simp
      (go_at_call 78; refine (wterm_x b.tk b.tn b.tu _ (HE.out.next (HW.out.trans (B4.out.mono Z0))) htn.out).mono ?_; rintro r w5 ⟨rfl, cc5⟩)
      try go_wp2_with fail
      have B5 : Hid (Below (w.heap.size + 2) ((w.alloc (.cells #[.slice (some ⟨bU, oU, none⟩) R.cur.length c0, .slice (some ⟨bC, oC, none⟩) R.cities.length c1, .slice a2 R.groups.length c2, .slice (some ⟨bF, oF, none⟩) R.firms.length c3, .slice a4 R.orders.length c4, .slice a5 R.usances.length c5, .slice a6 R.rates.length c6, .slice a7 R.halts.length c7] 31)).alloc (.cells #[.int .i64 b.drawer, .int .i64 b.drawee, .int .i64 b.payee, .int .i64 b.sum, .int .i64 b.cur, .int .i64 b.tk, .int .i64 b.tn, .int .i64 b.tu, .int .i64 b.day, .int .i64 b.city, .int .i64 b.pay, .int .i64 b.need, .int .i64 b.rate, .int .i64 b.flags, .int .i64 b.parts] 35)) w5) := low_up B4.out cc5 ZL
      clear cc5
      obtain ⟨s5, S5⟩ : ∃ s : B, s = mkB (termB b.tk b.tn b.tu) := ⟨_, rfl⟩
      rw [← S5]
      have z5 : s5.size ≤ 1000 := by rw [S5]; exact term_sz htn.out
      replace S5 := Lib.hid S5
      refine hK.out _ _ ?_ (fun hHeld => ?_)
      · exact B5.out
      clear hK K
      try simp only [Act.put, List.setIfInBounds_toArray, List.set_cons_zero, List.set_cons_succ]
      refine wpAnyH_take (v := ?_) wo_28 wo_none (by kernel_rfl) (by kernel_rfl) (fun _ _ _ h => h) (Or.inl ⟨by rfl, ?_⟩) (by assumption) ?_
      rotate_left
      · intro wz hSw
        clear hSw
        go_simp
        try rw [if_neg (by omega)]
        try with_reducible rfl
      try simp only [Act.put, List.setIfInBounds_toArray, List.set_cons_zero, List.set_cons_succ]
      refine wpAnyH_ready (rs := [31]) (by kernel_rfl) (by simp) (AllReadyH.cons wo_31 (fun K hK => ?_) AllReadyH.nil)
      rw [if_pos (by rfl)]
      go_simp
      (go_at_call 79; refine (wpayee_x b _ (HRS.out.next (HW.out.trans (B5.out.mono Z0))) HFT.out hrealm.out hpay.out hflags.1 hflags.2).mono ?_; rintro r w6 ⟨rfl, cc6⟩)
      try go_wp2_with fail
      have B6 : Hid (Below (w.heap.size + 2) ((w.alloc (.cells #[.slice (some ⟨bU, oU, none⟩) R.cur.length c0, .slice (some ⟨bC, oC, none⟩) R.cities.length c1, .slice a2 R.groups.length c2, .slice (some ⟨bF, oF, none⟩) R.firms.length c3, .slice a4 R.orders.length c4, .slice a5 R.usances.length c5, .slice a6 R.rates.length c6, .slice a7 R.halts.length c7] 31)).alloc (.cells #[.int .i64 b.drawer, .int .i64 b.drawee, .int .i64 b.payee, .int .i64 b.sum, .int .i64 b.cur, .int .i64 b.tk, .int .i64 b.tn, .int .i64 b.tu, .int .i64 b.day, .int .i64 b.city, .int .i64 b.pay, .int .i64 b.need, .int .i64 b.rate, .int .i64 b.flags, .int .i64 b.parts] 35)) w6) := low_up B5.out cc6 ZL
      clear cc6
      obtain ⟨s6, S6⟩ : ∃ s : B, s = mkB (payB R b.payee b.flags) := ⟨_, rfl⟩
      rw [← S6]
      have z6 : s6.size ≤ 1000 := by rw [S6]; exact pay_sz hrealm.out hpay.out
      replace S6 := Lib.hid S6
      refine hK.out _ _ ?_ (fun hHeld => ?_)
      · exact B6.out
      clear hK K
      try simp only [Act.put, List.setIfInBounds_toArray, List.set_cons_zero, List.set_cons_succ]
      refine wpAnyH_take (v := ?_) wo_32 wo_none (by kernel_rfl) (by kernel_rfl) (fun _ _ _ h => h) (Or.inl ⟨by rfl, ?_⟩) (by assumption) ?_
      rotate_left
      · intro wz hSw
        clear hSw
        go_simp
        try rw [if_neg (by omega)]
        try with_reducible rfl
      try simp only [Act.put, List.setIfInBounds_toArray, List.set_cons_zero, List.set_cons_succ]
      refine wpAnyH_ready (rs := [35]) (by kernel_rfl) (by simp) (AllReadyH.cons wo_35 (fun K hK => ?_) AllReadyH.nil)
      rw [if_pos (by rfl)]
      go_simp
      (go_at_call 76; refine (itoa_x b.sum _ (HE.out.next (HW.out.trans (B6.out.mono Z0))).tb (by omega) (by omega)).mono ?_; rintro r w7 ⟨rfl, cc7⟩)
      try go_wp2_with fail
      have B7 : Hid (Below (w.heap.size + 2) ((w.alloc (.cells #[.slice (some ⟨bU, oU, none⟩) R.cur.length c0, .slice (some ⟨bC, oC, none⟩) R.cities.length c1, .slice a2 R.groups.length c2, .slice (some ⟨bF, oF, none⟩) R.firms.length c3, .slice a4 R.orders.length c4, .slice a5 R.usances.length c5, .slice a6 R.rates.length c6, .slice a7 R.halts.length c7] 31)).alloc (.cells #[.int .i64 b.drawer, .int .i64 b.drawee, .int .i64 b.payee, .int .i64 b.sum, .int .i64 b.cur, .int .i64 b.tk, .int .i64 b.tn, .int .i64 b.tu, .int .i64 b.day, .int .i64 b.city, .int .i64 b.pay, .int .i64 b.need, .int .i64 b.rate, .int .i64 b.flags, .int .i64 b.parts] 35)) w7) := low_up B6.out cc7 ZL
      clear cc7
      obtain ⟨s7, S7⟩ : ∃ s : B, s = mkB (dec b.sum) := ⟨_, rfl⟩
      rw [← S7]
      have z7 : s7.size ≤ 1000 := by rw [S7]; exact dec_sz (by omega)
      replace S7 := Lib.hid S7
      refine hK.out _ _ ?_ (fun hHeld => ?_)
      · exact B7.out
      clear hK K
      try simp only [Act.put, List.setIfInBounds_toArray, List.set_cons_zero, List.set_cons_succ]
      refine wpAnyH_take (v := ?_) wo_36 wo_none (by kernel_rfl) (by kernel_rfl) (fun _ _ _ h => h) (Or.inl ⟨by rfl, ?_⟩) (by assumption) ?_
      rotate_left
      · intro wz hSw
        clear hSw
        go_simp
        try rw [if_neg (by omega)]
        try with_reducible rfl
      try simp only [Act.put, List.setIfInBounds_toArray, List.set_cons_zero, List.set_cons_succ]
      refine wpAnyH_take (v := ?_) wo_43 wo_none (by kernel_rfl) (by kernel_rfl) (fun _ _ _ h => h) (Or.inl ⟨by rfl, ?_⟩) (by assumption) ?_
      rotate_left
      · intro wz hSw
        clear hSw
        go_simp
        try rw [if_neg (by omega)]
        try with_reducible rfl
      try simp only [Act.put, List.setIfInBounds_toArray, List.set_cons_zero, List.set_cons_succ]
      refine wpAnyH_ready (rs := [45]) (by kernel_rfl) (by simp) (AllReadyH.cons wo_45 (fun K hK => ?_) AllReadyH.nil)
      rw [if_pos (by rfl)]
      go_simp
      (go_at_call 80; refine (interest_x b _ (HE.out.next (HW.out.trans (B7.out.mono Z0))).tb hrate.1 hrate.2).mono ?_; rintro r w8 ⟨rfl, cc8⟩)
      try go_wp2_with fail
      have B8 : Hid (Below (w.heap.size + 2) ((w.alloc (.cells #[.slice (some ⟨bU, oU, none⟩) R.cur.length c0, .slice (some ⟨bC, oC, none⟩) R.cities.length c1, .slice a2 R.groups.length c2, .slice (some ⟨bF, oF, none⟩) R.firms.length c3, .slice a4 R.orders.length c4, .slice a5 R.usances.length c5, .slice a6 R.rates.length c6, .slice a7 R.halts.length c7] 31)).alloc (.cells #[.int .i64 b.drawer, .int .i64 b.drawee, .int .i64 b.payee, .int .i64 b.sum, .int .i64 b.cur, .int .i64 b.tk, .int .i64 b.tn, .int .i64 b.tu, .int .i64 b.day, .int .i64 b.city, .int .i64 b.pay, .int .i64 b.need, .int .i64 b.rate, .int .i64 b.flags, .int .i64 b.parts] 35)) w8) := low_up B7.out cc8 ZL
      clear cc8
      obtain ⟨s8, S8⟩ : ∃ s : B, s = mkB (intB b.rate) := ⟨_, rfl⟩
      rw [← S8]
      have z8 : s8.size ≤ 1000 := by rw [S8]; exact int_sz hrate.2
      replace S8 := Lib.hid S8
      refine hK.out _ _ ?_ (fun hHeld => ?_)
      · exact B8.out
      clear hK K
      try simp only [Act.put, List.setIfInBounds_toArray, List.set_cons_zero, List.set_cons_succ]
      refine wpAnyH_take (v := ?_) wo_46 wo_none (by kernel_rfl) (by kernel_rfl) (fun _ _ _ h => h) (Or.inl ⟨by rfl, ?_⟩) (by assumption) ?_
      rotate_left
      · intro wz hSw
        clear hSw
        go_simp
        try rw [if_neg (by omega)]
        try with_reducible rfl
      try simp only [Act.put, List.setIfInBounds_toArray, List.set_cons_zero, List.set_cons_succ]
      refine wpAnyH_ready (rs := [64]) (by kernel_rfl) (by simp) (AllReadyH.cons wo_64 (fun K hK => ?_) AllReadyH.nil)
      rw [if_pos (by rfl)]
      refine build6 19 32 36 40 54 71 rfl _ _ _ _ _ _ rfl rfl rfl rfl rfl rfl ?_
      refine hK.out _ _ ?_ (fun hHeld => ?_)
      · exact B8.out.alloc (Nat.le_trans ZL B8.out.size) _
      clear hK K
      try simp only [Act.put, List.setIfInBounds_toArray, List.set_cons_zero, List.set_cons_succ]
      refine wpAnyH_take (v := ?_) wo_65 wo_none (by kernel_rfl) (by kernel_rfl) (fun _ _ _ h => h) (Or.inl ⟨by rfl, ?_⟩) (by assumption) ?_
      rotate_left
      · intro wz hSw
        clear hSw
        go_simp
        try rw [if_neg (by omega)]
        try with_reducible rfl
      try simp only [Act.put, List.setIfInBounds_toArray, List.set_cons_zero, List.set_cons_succ]
      refine wpAnyH_done (by kernel_rfl) ?_ _
      go_wp2_with fail
      go_meet
      case rel =>
        have e0 : s1 ++ ⟨#[32]⟩ ++ s2 ++ ⟨#[32, 111, 102, 32]⟩ ++ s3 = mkB (titleB b.flags ++ 32 :: (dec (p + 1) ++ tOf ++ dec b.parts)) := by
          rw [S1.out, S2.out, S3.out]
          show mkB (titleB b.flags) ++ mkB [32] ++ mkB (dec (p + 1)) ++ mkB tOf ++ mkB (dec b.parts) = _
          rw [mkB_app, mkB_app, mkB_app, mkB_app]
          try congr 1
          try simp only [List.append_assoc, List.cons_append, List.nil_append]
        have e1 : ⟨#[100, 114, 97, 119, 110, 32, 105, 110, 32]⟩ ++ nc.nm ++ ⟨#[32, 111, 110, 32]⟩ ++ s4 = mkB (tDrawn ++ cityN R b.city ++ tOn ++ dateB b.day) := by
          rw [← mkB_of nc.nm, ← Vcity.out, S4.out]
          show mkB tDrawn ++ mkB (cityN R b.city) ++ mkB tOn ++ mkB (dateB b.day) = _
          rw [mkB_app, mkB_app, mkB_app]
          try congr 1
          try simp only [List.append_assoc, List.cons_append, List.nil_append]
        have e2 : ⟨#[112, 97, 121, 32]⟩ ++ s5 = mkB (tPay ++ termB b.tk b.tn b.tu) := by
          rw [S5.out]
          show mkB tPay ++ mkB (termB b.tk b.tn b.tu) = _
          rw [mkB_app]
          try congr 1
          try simp only [List.append_assoc, List.cons_append, List.nil_append]
        have e3 : ⟨#[116, 111, 32]⟩ ++ s6 = mkB (tTo ++ payB R b.payee b.flags) := by
          rw [S6.out]
          show mkB tTo ++ mkB (payB R b.payee b.flags) = _
          rw [mkB_app]
          try congr 1
          try simp only [List.append_assoc, List.cons_append, List.nil_append]
        have e4 : s7 ++ ⟨#[32]⟩ ++ nu ++ s8 = mkB (dec b.sum ++ 32 :: (curN R b.cur ++ intB b.rate)) := by
          rw [← mkB_of nu, ← Vcur.out, S7.out, S8.out]
          show mkB (dec b.sum) ++ mkB [32] ++ mkB (curN R b.cur) ++ mkB (intB b.rate) = _
          rw [mkB_app, mkB_app, mkB_app]
          try congr 1
          try simp only [List.append_assoc, List.cons_append, List.nil_append]
        have e5 : ⟨#[116, 111, 32, 98, 101, 32, 112, 97, 105, 100, 32, 98, 121, 32]⟩ ++ nd.nm ++ ⟨#[32, 105, 110, 32]⟩ ++ np.nm = mkB (tBy ++ firmN R b.drawee ++ tIn ++ cityN R b.pay) := by
          rw [← mkB_of nd.nm, ← Vdrawee.out, ← mkB_of np.nm, ← Vpay.out]
          show mkB tBy ++ mkB (firmN R b.drawee) ++ mkB tIn ++ mkB (cityN R b.pay) = _
          rw [mkB_app, mkB_app, mkB_app]
          try congr 1
          try simp only [List.append_assoc, List.cons_append, List.nil_append]
        rw [e0, e1, e2, e3, e4, e5]
        exact ⟨B8.out.alloc (Nat.le_trans ZL B8.out.size) _, own_new (l := strs (([titleB b.flags ++ 32 :: (dec (p + 1) ++ tOf ++ dec b.parts), tDrawn ++ cityN R b.city ++ tOn ++ dateB b.day, tPay ++ termB b.tk b.tn b.tu, tTo ++ payB R b.payee b.flags, dec b.sum ++ 32 :: (curN R b.cur ++ intB b.rate), tBy ++ firmN R b.drawee ++ tIn ++ cityN R b.pay] : List L8).map mkB)) (heap_alloc_new _ _) (Nat.le_trans ZL B8.out.size) rfl (by omega)⟩
  case rest =>
    as_aux_lemma =>
      obtain ⟨bc, oc⟩ := hcut
      obtain ⟨lac, lcc, evc, lqc⟩ := own_shape oc
      subst evc
      have Bc := Lib.hid bc
      obtain ⟨Y0, hY0⟩ : ∃ Y : List B, Y = ([titleB b.flags ++ 32 :: (dec (p + 1) ++ tOf ++ dec b.parts), tDrawn ++ cityN R b.city ++ tOn ++ dateB b.day, tPay ++ termB b.tk b.tn b.tu, tTo ++ payB R b.payee b.flags, dec b.sum ++ 32 :: (curN R b.cur ++ intB b.rate), tBy ++ firmN R b.drawee ++ tIn ++ cityN R b.pay] : List L8).map mkB := ⟨_, rfl⟩
      rw [← hY0] at oc
      have Oc := Lib.hid oc
      have HN0 : Hid (Y0.length = 6) := by show _ = _; rw [hY0]; rfl
      have HY0 := Lib.hid hY0
      clear bc oc hY0
      obtain ⟨rj, hj, hy0, hy1, hy2⟩ := info_parts infoS
      have Hj := Lib.hid hj
      have Hy0 := Lib.hid hy0
      have Hy1 := Lib.hid hy1
      have Hy2 := Lib.hid hy2
      clear hj hy0 hy1 hy2
      have Xc := Lib.hid (X0.out.below Bc.out (by omega))
      have RBc := Lib.hid (RB0.out.low Bc.out (by omega))
      by_cases qa : 1 < b.parts
      · have QA := Lib.hid qa
        have x0 := Xc.out.at (i := 0) rfl
        have x1 := Xc.out.at (i := 1) rfl
        have x2 := Xc.out.at (i := 2) rfl
        have x3 := Xc.out.at (i := 3) rfl
        have x4 := Xc.out.at (i := 4) rfl
        have x5 := Xc.out.at (i := 5) rfl
        have x6 := Xc.out.at (i := 6) rfl
        have x7 := Xc.out.at (i := 7) rfl
        have x8 := Xc.out.at (i := 8) rfl
        have x9 := Xc.out.at (i := 9) rfl
        have x10 := Xc.out.at (i := 10) rfl
        have x11 := Xc.out.at (i := 11) rfl
        have x12 := Xc.out.at (i := 12) rfl
        have x13 := Xc.out.at (i := 13) rfl
        have x14 := Xc.out.at (i := 14) rfl
        go_wp2_with fail
        clear x0 x1 x2 x3 x4 x5 x6 x7 x8 x9 x10 x11 x12 x13 x14
        refine (others_p b p _ (HE.out.next (HW.out.trans (Bc.out.mono Z0))) hp0 hp1 hparts.2).mono ?_
        rintro r w9 ⟨rfl, cc9⟩
        have B9 : Hid (Below (w.heap.size + 2) ((w.alloc (.cells #[.slice (some ⟨bU, oU, none⟩) R.cur.length c0, .slice (some ⟨bC, oC, none⟩) R.cities.length c1, .slice a2 R.groups.length c2, .slice (some ⟨bF, oF, none⟩) R.firms.length c3, .slice a4 R.orders.length c4, .slice a5 R.usances.length c5, .slice a6 R.rates.length c6, .slice a7 R.halts.length c7] 31)).alloc (.cells #[.int .i64 b.drawer, .int .i64 b.drawee, .int .i64 b.payee, .int .i64 b.sum, .int .i64 b.cur, .int .i64 b.tk, .int .i64 b.tn, .int .i64 b.tu, .int .i64 b.day, .int .i64 b.city, .int .i64 b.pay, .int .i64 b.need, .int .i64 b.rate, .int .i64 b.flags, .int .i64 b.parts] 35)) w9) := low_up Bc.out cc9 ZL
        have O9 := Lib.hid (own_next Oc.out cc9)
        clear cc9
        obtain ⟨s9, S9⟩ : ∃ s : B, s = mkB (othB b.parts p) := ⟨_, rfl⟩
        rw [← S9]
        have z9 : s9.size ≤ 1000 := by rw [S9]; exact oth_sz hparts
        replace S9 := Lib.hid S9
        have X9 := Lib.hid (X0.out.below B9.out (by omega))
        have RB9 := Lib.hid (RB0.out.low B9.out (by omega))
        have hv21 : (⟨#[117, 110, 108, 101, 115, 115, 32, 112, 97, 114, 116, 32]⟩ ++ s9 ++ ⟨#[32, 119, 97, 115, 32, 112, 97, 105, 100]⟩) = mkB (tUnless ++ othB b.parts p ++ tWas) := by rw [S9.out]; exact cat3 (x := tUnless) rfl
        have HV21 := Lib.hid hv21
        clear hv21
        go_wp2_with (at_builtin; refine wpList_append_own _ rfl (.tmp 76) (.tmp 82) 22 rfl (w.heap.size + 2) 9 rj (.string ⟨#[]⟩) 1 16 Tryz.underlying22 Hj.out Hy0.out Hy1.out Hy2.out rfl (by decide) _ 6 (strs Y0) rfl ((O9.out).alloc _) ⟨(w9).heap.size, 0, none⟩ 1 1 [.string (⟨#[117, 110, 108, 101, 115, 115, 32, 112, 97, 114, 116, 32]⟩ ++ s9 ++ ⟨#[32, 119, 97, 115, 32, 112, 97, 105, 100]⟩)] rfl rfl ?f1 ?f2 ?f3 ?f4 ?f5 ?_)
        case f1 => exact cell_new1 _ _ _ _ (by first | rfl | simp)
        case f2 => first | rfl | (intro u hu; simp at hu; subst hu; rfl)
        case f3 => unfold maxLen; omega
        case f4 => omega
        case f5 => have := B9.out.size; simp at this ⊢; omega
        intro v21 w21 hown21 hgrow21 _
        have hrow : ∀ j, (Value.slice lac 6 lcc).ownBlock = some j → w.heap.size + 2 ≤ j := fun j hj => (O9.out.lt j hj).1
        have B21 : Hid (Below (w.heap.size + 2) ((w.alloc (.cells #[.slice (some ⟨bU, oU, none⟩) R.cur.length c0, .slice (some ⟨bC, oC, none⟩) R.cities.length c1, .slice a2 R.groups.length c2, .slice (some ⟨bF, oF, none⟩) R.firms.length c3, .slice a4 R.orders.length c4, .slice a5 R.usances.length c5, .slice a6 R.rates.length c6, .slice a7 R.halts.length c7] 31)).alloc (.cells #[.int .i64 b.drawer, .int .i64 b.drawee, .int .i64 b.payee, .int .i64 b.sum, .int .i64 b.cur, .int .i64 b.tk, .int .i64 b.tn, .int .i64 b.tu, .int .i64 b.day, .int .i64 b.city, .int .i64 b.pay, .int .i64 b.need, .int .i64 b.rate, .int .i64 b.flags, .int .i64 b.parts] 35)) w21) := (B9.out.alloc (Nat.le_trans ZL B9.out.size) _).grown hgrow21 (by have := Nat.le_trans ZL B9.out.size; simp at this ⊢; omega) hrow
        obtain ⟨Y21, hY21⟩ : ∃ Y : List B, Y = Y0 ++ [mkB (tUnless ++ othB b.parts p ++ tWas)] := ⟨_, rfl⟩
        have O21 : Hid (w21.ownsRow (w.heap.size + 2) 9 1 v21 7 (strs Y21)) := by
          show w21.ownsRow _ _ _ _ _ _
          rw [hY21, strs_app, ← HV21.out]
          exact hown21
        have HY21 := Lib.hid hY21
        have HN21 : Hid (Y21.length = 7) := by show _ = _; rw [hY21, List.length_append, HN0.out]; rfl
        obtain ⟨la21, lc21, ev21, lq21⟩ := own_shape O21.out
        subst ev21
        clear hown21 hgrow21 hrow hY21
        have X21 := Lib.hid (X0.out.below B21.out (by omega))
        have RB21 := Lib.hid (RB0.out.low B21.out (by omega))
        by_cases qb : b.need = -1
        · have g : (b.need != -1) = false := by rw [qb]; rfl
          have QB := Lib.hid qb
          clear qb
          have x11 := X21.out.at (i := 11) rfl
          cases qc : bit b.flags 2 with
          | true =>
            as_aux_lemma =>
              rw [qc] at hb2
              have QC := Lib.hid qc
              clear qc
              have x13 := X21.out.at (i := 13) rfl
              have hv22 : (⟨#[119, 105, 116, 104, 111, 117, 116, 32, 112, 114, 111, 116, 101, 115, 116]⟩) = mkB (tWithout) := rfl
              have HV22 := Lib.hid hv22
              clear hv22
              go_wp2_with (at_builtin; refine wpList_append_own _ rfl (.tmp 102) (.tmp 103) 22 rfl (w.heap.size + 2) 9 rj (.string ⟨#[]⟩) 1 16 Tryz.underlying22 Hj.out Hy0.out Hy1.out Hy2.out rfl (by decide) _ 7 (strs Y21) rfl ((O21.out).alloc _) ⟨(w21).heap.size, 0, none⟩ 1 1 [.string (⟨#[119, 105, 116, 104, 111, 117, 116, 32, 112, 114, 111, 116, 101, 115, 116]⟩)] rfl rfl ?f1 ?f2 ?f3 ?f4 ?f5 ?_)
              case f1 => exact cell_new1 _ _ _ _ (by first | rfl | simp)
              case f2 => first | rfl | (intro u hu; simp at hu; subst hu; rfl)
              case f3 => unfold maxLen; omega
              case f4 => omega
              case f5 => have := B21.out.size; simp at this ⊢; omega
              intro v22 w22 hown22 hgrow22 _
              clear x13
              have hrow : ∀ j, (Value.slice la21 7 lc21).ownBlock = some j → w.heap.size + 2 ≤ j := fun j hj => (O21.out.lt j hj).1
              have B22 : Hid (Below (w.heap.size + 2) ((w.alloc (.cells #[.slice (some ⟨bU, oU, none⟩) R.cur.length c0, .slice (some ⟨bC, oC, none⟩) R.cities.length c1, .slice a2 R.groups.length c2, .slice (some ⟨bF, oF, none⟩) R.firms.length c3, .slice a4 R.orders.length c4, .slice a5 R.usances.length c5, .slice a6 R.rates.length c6, .slice a7 R.halts.length c7] 31)).alloc (.cells #[.int .i64 b.drawer, .int .i64 b.drawee, .int .i64 b.payee, .int .i64 b.sum, .int .i64 b.cur, .int .i64 b.tk, .int .i64 b.tn, .int .i64 b.tu, .int .i64 b.day, .int .i64 b.city, .int .i64 b.pay, .int .i64 b.need, .int .i64 b.rate, .int .i64 b.flags, .int .i64 b.parts] 35)) w22) := (B21.out.alloc (Nat.le_trans ZL B21.out.size) _).grown hgrow22 (by have := Nat.le_trans ZL B21.out.size; simp at this ⊢; omega) hrow
              obtain ⟨Y22, hY22⟩ : ∃ Y : List B, Y = Y21 ++ [mkB (tWithout)] := ⟨_, rfl⟩
              have O22 : Hid (w22.ownsRow (w.heap.size + 2) 9 1 v22 8 (strs Y22)) := by
                show w22.ownsRow _ _ _ _ _ _
                rw [hY22, strs_app, ← HV22.out]
                exact hown22
              have HY22 := Lib.hid hY22
              have HN22 : Hid (Y22.length = 8) := by show _ = _; rw [hY22, List.length_append, HN21.out]; rfl
              obtain ⟨la22, lc22, ev22, lq22⟩ := own_shape O22.out
              subst ev22
              clear hown22 hgrow22 hrow hY22
              have X22 := Lib.hid (X0.out.below B22.out (by omega))
              have RB22 := Lib.hid (RB0.out.low B22.out (by omega))
              have x0 := X22.out.at (i := 0) rfl
              have k3 := RB22.out.b3
              have mdrawer : w22.cell? ⟨bF, oF + b.drawer.toNat * 3, none⟩ = some (.string nr.nm) := cell_up (HW.out.trans (B22.out.mono Z0)) (HF.out _ _ Edrawer.out 0 _ rfl)
              have hv23 : (⟨#[115, 105, 103, 110, 101, 100, 32]⟩ ++ nr.nm) = mkB (tSigned ++ firmN R b.drawer) := by rw [← mkB_of nr.nm, ← Vdrawer.out]; exact cat2 (x := tSigned) rfl
              have HV23 := Lib.hid hv23
              clear hv23
              go_wp2_with (at_builtin; refine wpList_append_own _ rfl (.tmp 105) (.tmp 114) 22 rfl (w.heap.size + 2) 9 rj (.string ⟨#[]⟩) 1 16 Tryz.underlying22 Hj.out Hy0.out Hy1.out Hy2.out rfl (by decide) _ 8 (strs Y22) rfl ((O22.out).alloc _) ⟨(w22).heap.size, 0, none⟩ 1 1 [.string (⟨#[115, 105, 103, 110, 101, 100, 32]⟩ ++ nr.nm)] rfl rfl ?f1 ?f2 ?f3 ?f4 ?f5 ?_)
              case f1 => exact cell_new1 _ _ _ _ (by first | rfl | simp)
              case f2 => first | rfl | (intro u hu; simp at hu; subst hu; rfl)
              case f3 => unfold maxLen; omega
              case f4 => omega
              case f5 => have := B22.out.size; simp at this ⊢; omega
              intro v23 w23 hown23 hgrow23 _
              clear x0 k3 mdrawer
              have hrow : ∀ j, (Value.slice la22 8 lc22).ownBlock = some j → w.heap.size + 2 ≤ j := fun j hj => (O22.out.lt j hj).1
              have B23 : Hid (Below (w.heap.size + 2) ((w.alloc (.cells #[.slice (some ⟨bU, oU, none⟩) R.cur.length c0, .slice (some ⟨bC, oC, none⟩) R.cities.length c1, .slice a2 R.groups.length c2, .slice (some ⟨bF, oF, none⟩) R.firms.length c3, .slice a4 R.orders.length c4, .slice a5 R.usances.length c5, .slice a6 R.rates.length c6, .slice a7 R.halts.length c7] 31)).alloc (.cells #[.int .i64 b.drawer, .int .i64 b.drawee, .int .i64 b.payee, .int .i64 b.sum, .int .i64 b.cur, .int .i64 b.tk, .int .i64 b.tn, .int .i64 b.tu, .int .i64 b.day, .int .i64 b.city, .int .i64 b.pay, .int .i64 b.need, .int .i64 b.rate, .int .i64 b.flags, .int .i64 b.parts] 35)) w23) := (B22.out.alloc (Nat.le_trans ZL B22.out.size) _).grown hgrow23 (by have := Nat.le_trans ZL B22.out.size; simp at this ⊢; omega) hrow
              obtain ⟨Y23, hY23⟩ : ∃ Y : List B, Y = Y22 ++ [mkB (tSigned ++ firmN R b.drawer)] := ⟨_, rfl⟩
              have O23 : Hid (w23.ownsRow (w.heap.size + 2) 9 1 v23 9 (strs Y23)) := by
                show w23.ownsRow _ _ _ _ _ _
                rw [hY23, strs_app, ← HV23.out]
                exact hown23
              have HY23 := Lib.hid hY23
              have HN23 : Hid (Y23.length = 9) := by show _ = _; rw [hY23, List.length_append, HN22.out]; rfl
              obtain ⟨la23, lc23, ev23, lq23⟩ := own_shape O23.out
              subst ev23
              clear hown23 hgrow23 hrow hY23
              have X23 := Lib.hid (X0.out.below B23.out (by omega))
              have RB23 := Lib.hid (RB0.out.low B23.out (by omega))
              have hl : Y23.map (fun x => x.data.toList) = linesW R b p := by
                rw [HY23.out, HY22.out, HY21.out, HY0.out]
                unfold linesW
                rw [if_pos QA.out, if_pos QB.out, if_pos QC.out]
                simp only [List.map_cons, List.map_nil, mkB_list, List.append_assoc, List.cons_append, List.nil_append, List.append_nil]
              have hb := lines_le HRT.out hp0 hp1
              have HL := Lib.hid hl
              have hlen : (linesW R b p).length = 9 := by rw [← hl, List.length_map, HN23.out]
              have hjn := inter_le [10] 300 _ hb
              rw [hlen] at hjn
              have HJ : Hid ((([10] : L8).intercalate (Y23.map (fun x => x.data.toList))).length ≤ 1000000) := by
                show _ ≤ _
                rw [hl]
                exact Nat.le_trans hjn (by decide)
              clear hl hb hjn hlen
              go_wp2_with fail
              refine (join_n ⟨#[10]⟩ _ O23.out HN23.out lq23 (by omega) HJ.out).mono ?_
              rintro r wf ⟨rfl, bf⟩
              have BF := Lib.hid (low_up B23.out bf ZL)
              clear bf
              obtain ⟨sj, hsj⟩ : ∃ sj : B, sj = mkB (([10] : L8).intercalate (Y23.map (fun x => x.data.toList))) := ⟨_, rfl⟩
              have hz : sj.size ≤ 1000000 := by rw [hsj, mkB_size]; exact HJ.out
              rw [← hsj]
              rw [HL.out] at hsj
              have HSJ := Lib.hid hsj
              clear hsj
              go_wp2
              go_ret
              refine ⟨str_eq ?_, HW.out.trans (BF.out.mono Z0)⟩
              rw [HSJ.out]
              unfold wordW
              rw [← inter_lines _ (by unfold linesW; simp)]
              exact mkB_app _ _
          | false =>
            as_aux_lemma =>
              rw [qc] at hb2
              have QC := Lib.hid qc
              clear qc
              have x0 := X21.out.at (i := 0) rfl
              have x13 := X21.out.at (i := 13) rfl
              have k3 := RB21.out.b3
              have mdrawer : w21.cell? ⟨bF, oF + b.drawer.toNat * 3, none⟩ = some (.string nr.nm) := cell_up (HW.out.trans (B21.out.mono Z0)) (HF.out _ _ Edrawer.out 0 _ rfl)
              have hv22 : (⟨#[115, 105, 103, 110, 101, 100, 32]⟩ ++ nr.nm) = mkB (tSigned ++ firmN R b.drawer) := by rw [← mkB_of nr.nm, ← Vdrawer.out]; exact cat2 (x := tSigned) rfl
              have HV22 := Lib.hid hv22
              clear hv22
              go_wp2_with (at_builtin; refine wpList_append_own _ rfl (.tmp 105) (.tmp 114) 22 rfl (w.heap.size + 2) 9 rj (.string ⟨#[]⟩) 1 16 Tryz.underlying22 Hj.out Hy0.out Hy1.out Hy2.out rfl (by decide) _ 7 (strs Y21) rfl ((O21.out).alloc _) ⟨(w21).heap.size, 0, none⟩ 1 1 [.string (⟨#[115, 105, 103, 110, 101, 100, 32]⟩ ++ nr.nm)] rfl rfl ?f1 ?f2 ?f3 ?f4 ?f5 ?_)
              case f1 => exact cell_new1 _ _ _ _ (by first | rfl | simp)
              case f2 => first | rfl | (intro u hu; simp at hu; subst hu; rfl)
              case f3 => unfold maxLen; omega
              case f4 => omega
              case f5 => have := B21.out.size; simp at this ⊢; omega
              intro v22 w22 hown22 hgrow22 _
              clear x0 x13 k3 mdrawer
              have hrow : ∀ j, (Value.slice la21 7 lc21).ownBlock = some j → w.heap.size + 2 ≤ j := fun j hj => (O21.out.lt j hj).1
              have B22 : Hid (Below (w.heap.size + 2) ((w.alloc (.cells #[.slice (some ⟨bU, oU, none⟩) R.cur.length c0, .slice (some ⟨bC, oC, none⟩) R.cities.length c1, .slice a2 R.groups.length c2, .slice (some ⟨bF, oF, none⟩) R.firms.length c3, .slice a4 R.orders.length c4, .slice a5 R.usances.length c5, .slice a6 R.rates.length c6, .slice a7 R.halts.length c7] 31)).alloc (.cells #[.int .i64 b.drawer, .int .i64 b.drawee, .int .i64 b.payee, .int .i64 b.sum, .int .i64 b.cur, .int .i64 b.tk, .int .i64 b.tn, .int .i64 b.tu, .int .i64 b.day, .int .i64 b.city, .int .i64 b.pay, .int .i64 b.need, .int .i64 b.rate, .int .i64 b.flags, .int .i64 b.parts] 35)) w22) := (B21.out.alloc (Nat.le_trans ZL B21.out.size) _).grown hgrow22 (by have := Nat.le_trans ZL B21.out.size; simp at this ⊢; omega) hrow
              obtain ⟨Y22, hY22⟩ : ∃ Y : List B, Y = Y21 ++ [mkB (tSigned ++ firmN R b.drawer)] := ⟨_, rfl⟩
              have O22 : Hid (w22.ownsRow (w.heap.size + 2) 9 1 v22 8 (strs Y22)) := by
                show w22.ownsRow _ _ _ _ _ _
                rw [hY22, strs_app, ← HV22.out]
                exact hown22
              have HY22 := Lib.hid hY22
              have HN22 : Hid (Y22.length = 8) := by show _ = _; rw [hY22, List.length_append, HN21.out]; rfl
              obtain ⟨la22, lc22, ev22, lq22⟩ := own_shape O22.out
              subst ev22
              clear hown22 hgrow22 hrow hY22
              have X22 := Lib.hid (X0.out.below B22.out (by omega))
              have RB22 := Lib.hid (RB0.out.low B22.out (by omega))
              have hl : Y22.map (fun x => x.data.toList) = linesW R b p := by
                rw [HY22.out, HY21.out, HY0.out]
                unfold linesW
                rw [if_pos QA.out, if_pos QB.out, if_neg (by rw [QC.out]; decide)]
                simp only [List.map_cons, List.map_nil, mkB_list, List.append_assoc, List.cons_append, List.nil_append, List.append_nil]
              have hb := lines_le HRT.out hp0 hp1
              have HL := Lib.hid hl
              have hlen : (linesW R b p).length = 8 := by rw [← hl, List.length_map, HN22.out]
              have hjn := inter_le [10] 300 _ hb
              rw [hlen] at hjn
              have HJ : Hid ((([10] : L8).intercalate (Y22.map (fun x => x.data.toList))).length ≤ 1000000) := by
                show _ ≤ _
                rw [hl]
                exact Nat.le_trans hjn (by decide)
              clear hl hb hjn hlen
              go_wp2_with fail
              refine (join_n ⟨#[10]⟩ _ O22.out HN22.out lq22 (by omega) HJ.out).mono ?_
              rintro r wf ⟨rfl, bf⟩
              have BF := Lib.hid (low_up B22.out bf ZL)
              clear bf
              obtain ⟨sj, hsj⟩ : ∃ sj : B, sj = mkB (([10] : L8).intercalate (Y22.map (fun x => x.data.toList))) := ⟨_, rfl⟩
              have hz : sj.size ≤ 1000000 := by rw [hsj, mkB_size]; exact HJ.out
              rw [← hsj]
              rw [HL.out] at hsj
              have HSJ := Lib.hid hsj
              clear hsj
              go_wp2
              go_ret
              refine ⟨str_eq ?_, HW.out.trans (BF.out.mono Z0)⟩
              rw [HSJ.out]
              unfold wordW
              rw [← inter_lines _ (by unfold linesW; simp)]
              exact mkB_app _ _
        · have g : (b.need != -1) = true := bne_iff_ne.2 qb
          have QB := Lib.hid qb
          obtain ⟨nn, eneed⟩ : ∃ x, R.firms[b.need.toNat]? = some x := ⟨_, List.getElem?_eq_getElem (by have := ix_iff.1 (hneed.out.resolve_left qb); omega)⟩
          have Eneed := Lib.hid eneed
          have zneed : nn.nm.size ≤ 20 := firm_sz hrealm.out eneed
          have Vneed : Hid (firmN R b.need = nn.nm.data.toList) := by show firmN R _ = _; unfold firmN; rw [eneed]
          have ineed0 : (0 : Int) ≤ b.need := (ix_iff.1 (hneed.out.resolve_left qb)).1
          have ineed1 : b.need < (R.firms.length : Int) := (ix_iff.1 (hneed.out.resolve_left qb)).2
          clear eneed
          clear qb
          have x11 := X21.out.at (i := 11) rfl
          have k3 := RB21.out.b3
          have mneed : w21.cell? ⟨bF, oF + b.need.toNat * 3, none⟩ = some (.string nn.nm) := cell_up (HW.out.trans (B21.out.mono Z0)) (HF.out _ _ Eneed.out 0 _ rfl)
          have hv22 : (⟨#[105, 110, 32, 110, 101, 101, 100, 32, 97, 115, 107, 32]⟩ ++ nn.nm) = mkB (tNeed ++ firmN R b.need) := by rw [← mkB_of nn.nm, ← Vneed.out]; exact cat2 (x := tNeed) rfl
          have HV22 := Lib.hid hv22
          clear hv22
          go_wp2_with (at_builtin; refine wpList_append_own _ rfl (.tmp 87) (.tmp 96) 22 rfl (w.heap.size + 2) 9 rj (.string ⟨#[]⟩) 1 16 Tryz.underlying22 Hj.out Hy0.out Hy1.out Hy2.out rfl (by decide) _ 7 (strs Y21) rfl ((O21.out).alloc _) ⟨(w21).heap.size, 0, none⟩ 1 1 [.string (⟨#[105, 110, 32, 110, 101, 101, 100, 32, 97, 115, 107, 32]⟩ ++ nn.nm)] rfl rfl ?f1 ?f2 ?f3 ?f4 ?f5 ?_)
          case f1 => exact cell_new1 _ _ _ _ (by first | rfl | simp)
          case f2 => first | rfl | (intro u hu; simp at hu; subst hu; rfl)
          case f3 => unfold maxLen; omega
          case f4 => omega
          case f5 => have := B21.out.size; simp at this ⊢; omega
          intro v22 w22 hown22 hgrow22 _
          clear x11 k3 mneed
          have hrow : ∀ j, (Value.slice la21 7 lc21).ownBlock = some j → w.heap.size + 2 ≤ j := fun j hj => (O21.out.lt j hj).1
          have B22 : Hid (Below (w.heap.size + 2) ((w.alloc (.cells #[.slice (some ⟨bU, oU, none⟩) R.cur.length c0, .slice (some ⟨bC, oC, none⟩) R.cities.length c1, .slice a2 R.groups.length c2, .slice (some ⟨bF, oF, none⟩) R.firms.length c3, .slice a4 R.orders.length c4, .slice a5 R.usances.length c5, .slice a6 R.rates.length c6, .slice a7 R.halts.length c7] 31)).alloc (.cells #[.int .i64 b.drawer, .int .i64 b.drawee, .int .i64 b.payee, .int .i64 b.sum, .int .i64 b.cur, .int .i64 b.tk, .int .i64 b.tn, .int .i64 b.tu, .int .i64 b.day, .int .i64 b.city, .int .i64 b.pay, .int .i64 b.need, .int .i64 b.rate, .int .i64 b.flags, .int .i64 b.parts] 35)) w22) := (B21.out.alloc (Nat.le_trans ZL B21.out.size) _).grown hgrow22 (by have := Nat.le_trans ZL B21.out.size; simp at this ⊢; omega) hrow
          obtain ⟨Y22, hY22⟩ : ∃ Y : List B, Y = Y21 ++ [mkB (tNeed ++ firmN R b.need)] := ⟨_, rfl⟩
          have O22 : Hid (w22.ownsRow (w.heap.size + 2) 9 1 v22 8 (strs Y22)) := by
            show w22.ownsRow _ _ _ _ _ _
            rw [hY22, strs_app, ← HV22.out]
            exact hown22
          have HY22 := Lib.hid hY22
          have HN22 : Hid (Y22.length = 8) := by show _ = _; rw [hY22, List.length_append, HN21.out]; rfl
          obtain ⟨la22, lc22, ev22, lq22⟩ := own_shape O22.out
          subst ev22
          clear hown22 hgrow22 hrow hY22
          have X22 := Lib.hid (X0.out.below B22.out (by omega))
          have RB22 := Lib.hid (RB0.out.low B22.out (by omega))
          cases qc : bit b.flags 2 with
          | true =>
            as_aux_lemma =>
              rw [qc] at hb2
              have QC := Lib.hid qc
              clear qc
              have x13 := X22.out.at (i := 13) rfl
              have hv23 : (⟨#[119, 105, 116, 104, 111, 117, 116, 32, 112, 114, 111, 116, 101, 115, 116]⟩) = mkB (tWithout) := rfl
              have HV23 := Lib.hid hv23
              clear hv23
              go_wp2_with (at_builtin; refine wpList_append_own _ rfl (.tmp 102) (.tmp 103) 22 rfl (w.heap.size + 2) 9 rj (.string ⟨#[]⟩) 1 16 Tryz.underlying22 Hj.out Hy0.out Hy1.out Hy2.out rfl (by decide) _ 8 (strs Y22) rfl ((O22.out).alloc _) ⟨(w22).heap.size, 0, none⟩ 1 1 [.string (⟨#[119, 105, 116, 104, 111, 117, 116, 32, 112, 114, 111, 116, 101, 115, 116]⟩)] rfl rfl ?f1 ?f2 ?f3 ?f4 ?f5 ?_)
              case f1 => exact cell_new1 _ _ _ _ (by first | rfl | simp)
              case f2 => first | rfl | (intro u hu; simp at hu; subst hu; rfl)
              case f3 => unfold maxLen; omega
              case f4 => omega
              case f5 => have := B22.out.size; simp at this ⊢; omega
              intro v23 w23 hown23 hgrow23 _
              clear x13
              have hrow : ∀ j, (Value.slice la22 8 lc22).ownBlock = some j → w.heap.size + 2 ≤ j := fun j hj => (O22.out.lt j hj).1
              have B23 : Hid (Below (w.heap.size + 2) ((w.alloc (.cells #[.slice (some ⟨bU, oU, none⟩) R.cur.length c0, .slice (some ⟨bC, oC, none⟩) R.cities.length c1, .slice a2 R.groups.length c2, .slice (some ⟨bF, oF, none⟩) R.firms.length c3, .slice a4 R.orders.length c4, .slice a5 R.usances.length c5, .slice a6 R.rates.length c6, .slice a7 R.halts.length c7] 31)).alloc (.cells #[.int .i64 b.drawer, .int .i64 b.drawee, .int .i64 b.payee, .int .i64 b.sum, .int .i64 b.cur, .int .i64 b.tk, .int .i64 b.tn, .int .i64 b.tu, .int .i64 b.day, .int .i64 b.city, .int .i64 b.pay, .int .i64 b.need, .int .i64 b.rate, .int .i64 b.flags, .int .i64 b.parts] 35)) w23) := (B22.out.alloc (Nat.le_trans ZL B22.out.size) _).grown hgrow23 (by have := Nat.le_trans ZL B22.out.size; simp at this ⊢; omega) hrow
              obtain ⟨Y23, hY23⟩ : ∃ Y : List B, Y = Y22 ++ [mkB (tWithout)] := ⟨_, rfl⟩
              have O23 : Hid (w23.ownsRow (w.heap.size + 2) 9 1 v23 9 (strs Y23)) := by
                show w23.ownsRow _ _ _ _ _ _
                rw [hY23, strs_app, ← HV23.out]
                exact hown23
              have HY23 := Lib.hid hY23
              have HN23 : Hid (Y23.length = 9) := by show _ = _; rw [hY23, List.length_append, HN22.out]; rfl
              obtain ⟨la23, lc23, ev23, lq23⟩ := own_shape O23.out
              subst ev23
              clear hown23 hgrow23 hrow hY23
              have X23 := Lib.hid (X0.out.below B23.out (by omega))
              have RB23 := Lib.hid (RB0.out.low B23.out (by omega))
              have x0 := X23.out.at (i := 0) rfl
              have k3 := RB23.out.b3
              have mdrawer : w23.cell? ⟨bF, oF + b.drawer.toNat * 3, none⟩ = some (.string nr.nm) := cell_up (HW.out.trans (B23.out.mono Z0)) (HF.out _ _ Edrawer.out 0 _ rfl)
              have hv24 : (⟨#[115, 105, 103, 110, 101, 100, 32]⟩ ++ nr.nm) = mkB (tSigned ++ firmN R b.drawer) := by rw [← mkB_of nr.nm, ← Vdrawer.out]; exact cat2 (x := tSigned) rfl
              have HV24 := Lib.hid hv24
              clear hv24
              go_wp2_with (at_builtin; refine wpList_append_own _ rfl (.tmp 105) (.tmp 114) 22 rfl (w.heap.size + 2) 9 rj (.string ⟨#[]⟩) 1 16 Tryz.underlying22 Hj.out Hy0.out Hy1.out Hy2.out rfl (by decide) _ 9 (strs Y23) rfl ((O23.out).alloc _) ⟨(w23).heap.size, 0, none⟩ 1 1 [.string (⟨#[115, 105, 103, 110, 101, 100, 32]⟩ ++ nr.nm)] rfl rfl ?f1 ?f2 ?f3 ?f4 ?f5 ?_)
              case f1 => exact cell_new1 _ _ _ _ (by first | rfl | simp)
              case f2 => first | rfl | (intro u hu; simp at hu; subst hu; rfl)
              case f3 => unfold maxLen; omega
              case f4 => omega
              case f5 => have := B23.out.size; simp at this ⊢; omega
              intro v24 w24 hown24 hgrow24 _
              clear x0 k3 mdrawer
              have hrow : ∀ j, (Value.slice la23 9 lc23).ownBlock = some j → w.heap.size + 2 ≤ j := fun j hj => (O23.out.lt j hj).1
              have B24 : Hid (Below (w.heap.size + 2) ((w.alloc (.cells #[.slice (some ⟨bU, oU, none⟩) R.cur.length c0, .slice (some ⟨bC, oC, none⟩) R.cities.length c1, .slice a2 R.groups.length c2, .slice (some ⟨bF, oF, none⟩) R.firms.length c3, .slice a4 R.orders.length c4, .slice a5 R.usances.length c5, .slice a6 R.rates.length c6, .slice a7 R.halts.length c7] 31)).alloc (.cells #[.int .i64 b.drawer, .int .i64 b.drawee, .int .i64 b.payee, .int .i64 b.sum, .int .i64 b.cur, .int .i64 b.tk, .int .i64 b.tn, .int .i64 b.tu, .int .i64 b.day, .int .i64 b.city, .int .i64 b.pay, .int .i64 b.need, .int .i64 b.rate, .int .i64 b.flags, .int .i64 b.parts] 35)) w24) := (B23.out.alloc (Nat.le_trans ZL B23.out.size) _).grown hgrow24 (by have := Nat.le_trans ZL B23.out.size; simp at this ⊢; omega) hrow
              obtain ⟨Y24, hY24⟩ : ∃ Y : List B, Y = Y23 ++ [mkB (tSigned ++ firmN R b.drawer)] := ⟨_, rfl⟩
              have O24 : Hid (w24.ownsRow (w.heap.size + 2) 9 1 v24 10 (strs Y24)) := by
                show w24.ownsRow _ _ _ _ _ _
                rw [hY24, strs_app, ← HV24.out]
                exact hown24
              have HY24 := Lib.hid hY24
              have HN24 : Hid (Y24.length = 10) := by show _ = _; rw [hY24, List.length_append, HN23.out]; rfl
              obtain ⟨la24, lc24, ev24, lq24⟩ := own_shape O24.out
              subst ev24
              clear hown24 hgrow24 hrow hY24
              have X24 := Lib.hid (X0.out.below B24.out (by omega))
              have RB24 := Lib.hid (RB0.out.low B24.out (by omega))
              have hl : Y24.map (fun x => x.data.toList) = linesW R b p := by
                rw [HY24.out, HY23.out, HY22.out, HY21.out, HY0.out]
                unfold linesW
                rw [if_pos QA.out, if_neg QB.out, if_pos QC.out]
                simp only [List.map_cons, List.map_nil, mkB_list, List.append_assoc, List.cons_append, List.nil_append]
              have hb := lines_le HRT.out hp0 hp1
              have HL := Lib.hid hl
              have hlen : (linesW R b p).length = 10 := by rw [← hl, List.length_map, HN24.out]
              have hjn := inter_le [10] 300 _ hb
              rw [hlen] at hjn
              have HJ : Hid ((([10] : L8).intercalate (Y24.map (fun x => x.data.toList))).length ≤ 1000000) := by
                show _ ≤ _
                rw [hl]
                exact Nat.le_trans hjn (by decide)
              clear hl hb hjn hlen
              go_wp2_with fail
              refine (join_n ⟨#[10]⟩ _ O24.out HN24.out lq24 (by omega) HJ.out).mono ?_
              rintro r wf ⟨rfl, bf⟩
              have BF := Lib.hid (low_up B24.out bf ZL)
              clear bf
              obtain ⟨sj, hsj⟩ : ∃ sj : B, sj = mkB (([10] : L8).intercalate (Y24.map (fun x => x.data.toList))) := ⟨_, rfl⟩
              have hz : sj.size ≤ 1000000 := by rw [hsj, mkB_size]; exact HJ.out
              rw [← hsj]
              rw [HL.out] at hsj
              have HSJ := Lib.hid hsj
              clear hsj
              go_wp2
              go_ret
              refine ⟨str_eq ?_, HW.out.trans (BF.out.mono Z0)⟩
              rw [HSJ.out]
              unfold wordW
              rw [← inter_lines _ (by unfold linesW; simp)]
              exact mkB_app _ _
          | false =>
            as_aux_lemma =>
              rw [qc] at hb2
              have QC := Lib.hid qc
              clear qc
              have x0 := X22.out.at (i := 0) rfl
              have x13 := X22.out.at (i := 13) rfl
              have k3 := RB22.out.b3
              have mdrawer : w22.cell? ⟨bF, oF + b.drawer.toNat * 3, none⟩ = some (.string nr.nm) := cell_up (HW.out.trans (B22.out.mono Z0)) (HF.out _ _ Edrawer.out 0 _ rfl)
              have hv23 : (⟨#[115, 105, 103, 110, 101, 100, 32]⟩ ++ nr.nm) = mkB (tSigned ++ firmN R b.drawer) := by rw [← mkB_of nr.nm, ← Vdrawer.out]; exact cat2 (x := tSigned) rfl
              have HV23 := Lib.hid hv23
              clear hv23
              go_wp2_with (at_builtin; refine wpList_append_own _ rfl (.tmp 105) (.tmp 114) 22 rfl (w.heap.size + 2) 9 rj (.string ⟨#[]⟩) 1 16 Tryz.underlying22 Hj.out Hy0.out Hy1.out Hy2.out rfl (by decide) _ 8 (strs Y22) rfl ((O22.out).alloc _) ⟨(w22).heap.size, 0, none⟩ 1 1 [.string (⟨#[115, 105, 103, 110, 101, 100, 32]⟩ ++ nr.nm)] rfl rfl ?f1 ?f2 ?f3 ?f4 ?f5 ?_)
              case f1 => exact cell_new1 _ _ _ _ (by first | rfl | simp)
              case f2 => first | rfl | (intro u hu; simp at hu; subst hu; rfl)
              case f3 => unfold maxLen; omega
              case f4 => omega
              case f5 => have := B22.out.size; simp at this ⊢; omega
              intro v23 w23 hown23 hgrow23 _
              clear x0 x13 k3 mdrawer
              have hrow : ∀ j, (Value.slice la22 8 lc22).ownBlock = some j → w.heap.size + 2 ≤ j := fun j hj => (O22.out.lt j hj).1
              have B23 : Hid (Below (w.heap.size + 2) ((w.alloc (.cells #[.slice (some ⟨bU, oU, none⟩) R.cur.length c0, .slice (some ⟨bC, oC, none⟩) R.cities.length c1, .slice a2 R.groups.length c2, .slice (some ⟨bF, oF, none⟩) R.firms.length c3, .slice a4 R.orders.length c4, .slice a5 R.usances.length c5, .slice a6 R.rates.length c6, .slice a7 R.halts.length c7] 31)).alloc (.cells #[.int .i64 b.drawer, .int .i64 b.drawee, .int .i64 b.payee, .int .i64 b.sum, .int .i64 b.cur, .int .i64 b.tk, .int .i64 b.tn, .int .i64 b.tu, .int .i64 b.day, .int .i64 b.city, .int .i64 b.pay, .int .i64 b.need, .int .i64 b.rate, .int .i64 b.flags, .int .i64 b.parts] 35)) w23) := (B22.out.alloc (Nat.le_trans ZL B22.out.size) _).grown hgrow23 (by have := Nat.le_trans ZL B22.out.size; simp at this ⊢; omega) hrow
              obtain ⟨Y23, hY23⟩ : ∃ Y : List B, Y = Y22 ++ [mkB (tSigned ++ firmN R b.drawer)] := ⟨_, rfl⟩
              have O23 : Hid (w23.ownsRow (w.heap.size + 2) 9 1 v23 9 (strs Y23)) := by
                show w23.ownsRow _ _ _ _ _ _
                rw [hY23, strs_app, ← HV23.out]
                exact hown23
              have HY23 := Lib.hid hY23
              have HN23 : Hid (Y23.length = 9) := by show _ = _; rw [hY23, List.length_append, HN22.out]; rfl
              obtain ⟨la23, lc23, ev23, lq23⟩ := own_shape O23.out
              subst ev23
              clear hown23 hgrow23 hrow hY23
              have X23 := Lib.hid (X0.out.below B23.out (by omega))
              have RB23 := Lib.hid (RB0.out.low B23.out (by omega))
              have hl : Y23.map (fun x => x.data.toList) = linesW R b p := by
                rw [HY23.out, HY22.out, HY21.out, HY0.out]
                unfold linesW
                rw [if_pos QA.out, if_neg QB.out, if_neg (by rw [QC.out]; decide)]
                simp only [List.map_cons, List.map_nil, mkB_list, List.append_assoc, List.cons_append, List.nil_append, List.append_nil]
              have hb := lines_le HRT.out hp0 hp1
              have HL := Lib.hid hl
              have hlen : (linesW R b p).length = 9 := by rw [← hl, List.length_map, HN23.out]
              have hjn := inter_le [10] 300 _ hb
              rw [hlen] at hjn
              have HJ : Hid ((([10] : L8).intercalate (Y23.map (fun x => x.data.toList))).length ≤ 1000000) := by
                show _ ≤ _
                rw [hl]
                exact Nat.le_trans hjn (by decide)
              clear hl hb hjn hlen
              go_wp2_with fail
              refine (join_n ⟨#[10]⟩ _ O23.out HN23.out lq23 (by omega) HJ.out).mono ?_
              rintro r wf ⟨rfl, bf⟩
              have BF := Lib.hid (low_up B23.out bf ZL)
              clear bf
              obtain ⟨sj, hsj⟩ : ∃ sj : B, sj = mkB (([10] : L8).intercalate (Y23.map (fun x => x.data.toList))) := ⟨_, rfl⟩
              have hz : sj.size ≤ 1000000 := by rw [hsj, mkB_size]; exact HJ.out
              rw [← hsj]
              rw [HL.out] at hsj
              have HSJ := Lib.hid hsj
              clear hsj
              go_wp2
              go_ret
              refine ⟨str_eq ?_, HW.out.trans (BF.out.mono Z0)⟩
              rw [HSJ.out]
              unfold wordW
              rw [← inter_lines _ (by unfold linesW; simp)]
              exact mkB_app _ _
      · have QA := Lib.hid qa
        have ga : decide ((1 : Int) < b.parts) = false := decide_eq_false qa
        clear qa
        have x14 := Xc.out.at (i := 14) rfl
        by_cases qb : b.need = -1
        · have g : (b.need != -1) = false := by rw [qb]; rfl
          have QB := Lib.hid qb
          clear qb
          have x11 := Xc.out.at (i := 11) rfl
          cases qc : bit b.flags 2 with
          | true =>
            as_aux_lemma =>
              rw [qc] at hb2
              have QC := Lib.hid qc
              clear qc
              have x13 := Xc.out.at (i := 13) rfl
              have hv21 : (⟨#[119, 105, 116, 104, 111, 117, 116, 32, 112, 114, 111, 116, 101, 115, 116]⟩) = mkB (tWithout) := rfl
              have HV21 := Lib.hid hv21
              clear hv21
              go_wp2_with (at_builtin; refine wpList_append_own _ rfl (.tmp 102) (.tmp 103) 22 rfl (w.heap.size + 2) 9 rj (.string ⟨#[]⟩) 1 16 Tryz.underlying22 Hj.out Hy0.out Hy1.out Hy2.out rfl (by decide) _ 6 (strs Y0) rfl ((Oc.out).alloc _) ⟨(wc).heap.size, 0, none⟩ 1 1 [.string (⟨#[119, 105, 116, 104, 111, 117, 116, 32, 112, 114, 111, 116, 101, 115, 116]⟩)] rfl rfl (cell_new1 _ _ _ _ (by first | rfl | simp)) (fun u hu => by simp at hu; subst hu; rfl) (by unfold maxLen; omega) (by omega) (by have := Bc.out.size; simp at this ⊢; omega) ?_)
              intro v21 w21 hown21 hgrow21 _
              clear x13
              have hrow : ∀ j, (Value.slice lac 6 lcc).ownBlock = some j → w.heap.size + 2 ≤ j := fun j hj => (Oc.out.lt j hj).1
              have B21 : Hid (Below (w.heap.size + 2) ((w.alloc (.cells #[.slice (some ⟨bU, oU, none⟩) R.cur.length c0, .slice (some ⟨bC, oC, none⟩) R.cities.length c1, .slice a2 R.groups.length c2, .slice (some ⟨bF, oF, none⟩) R.firms.length c3, .slice a4 R.orders.length c4, .slice a5 R.usances.length c5, .slice a6 R.rates.length c6, .slice a7 R.halts.length c7] 31)).alloc (.cells #[.int .i64 b.drawer, .int .i64 b.drawee, .int .i64 b.payee, .int .i64 b.sum, .int .i64 b.cur, .int .i64 b.tk, .int .i64 b.tn, .int .i64 b.tu, .int .i64 b.day, .int .i64 b.city, .int .i64 b.pay, .int .i64 b.need, .int .i64 b.rate, .int .i64 b.flags, .int .i64 b.parts] 35)) w21) := (Bc.out.alloc (Nat.le_trans ZL Bc.out.size) _).grown hgrow21 (by have := Nat.le_trans ZL Bc.out.size; simp at this ⊢; omega) hrow
              obtain ⟨Y21, hY21⟩ : ∃ Y : List B, Y = Y0 ++ [mkB (tWithout)] := ⟨_, rfl⟩
              have O21 : Hid (w21.ownsRow (w.heap.size + 2) 9 1 v21 7 (strs Y21)) := by
                show w21.ownsRow _ _ _ _ _ _
                rw [hY21, strs_app, ← HV21.out]
                exact hown21
              have HY21 := Lib.hid hY21
              have HN21 : Hid (Y21.length = 7) := by show _ = _; rw [hY21, List.length_append, HN0.out]; rfl
              obtain ⟨la21, lc21, ev21, lq21⟩ := own_shape O21.out
              subst ev21
              clear hown21 hgrow21 hrow hY21
              have X21 := Lib.hid (X0.out.below B21.out (by omega))
              have RB21 := Lib.hid (RB0.out.low B21.out (by omega))
              have x0 := X21.out.at (i := 0) rfl
              have k3 := RB21.out.b3
              have mdrawer : w21.cell? ⟨bF, oF + b.drawer.toNat * 3, none⟩ = some (.string nr.nm) := cell_up (HW.out.trans (B21.out.mono Z0)) (HF.out _ _ Edrawer.out 0 _ rfl)
              have hv22 : (⟨#[115, 105, 103, 110, 101, 100, 32]⟩ ++ nr.nm) = mkB (tSigned ++ firmN R b.drawer) := by rw [← mkB_of nr.nm, ← Vdrawer.out]; exact cat2 (x := tSigned) rfl
              have HV22 := Lib.hid hv22
              clear hv22
              go_wp2_with (at_builtin; refine wpList_append_own _ rfl (.tmp 105) (.tmp 114) 22 rfl (w.heap.size + 2) 9 rj (.string ⟨#[]⟩) 1 16 Tryz.underlying22 Hj.out Hy0.out Hy1.out Hy2.out rfl (by decide) _ 7 (strs Y21) rfl ((O21.out).alloc _) ⟨(w21).heap.size, 0, none⟩ 1 1 [.string (⟨#[115, 105, 103, 110, 101, 100, 32]⟩ ++ nr.nm)] rfl rfl ?f1 ?f2 ?f3 ?f4 ?f5 ?_)
              case f1 => exact cell_new1 _ _ _ _ (by first | rfl | simp)
              case f2 => first | rfl | (intro u hu; simp at hu; subst hu; rfl)
              case f3 => unfold maxLen; omega
              case f4 => omega
              case f5 => have := B21.out.size; simp at this ⊢; omega
              intro v22 w22 hown22 hgrow22 _
              clear x0 k3 mdrawer
              have hrow : ∀ j, (Value.slice la21 7 lc21).ownBlock = some j → w.heap.size + 2 ≤ j := fun j hj => (O21.out.lt j hj).1
              have B22 : Hid (Below (w.heap.size + 2) ((w.alloc (.cells #[.slice (some ⟨bU, oU, none⟩) R.cur.length c0, .slice (some ⟨bC, oC, none⟩) R.cities.length c1, .slice a2 R.groups.length c2, .slice (some ⟨bF, oF, none⟩) R.firms.length c3, .slice a4 R.orders.length c4, .slice a5 R.usances.length c5, .slice a6 R.rates.length c6, .slice a7 R.halts.length c7] 31)).alloc (.cells #[.int .i64 b.drawer, .int .i64 b.drawee, .int .i64 b.payee, .int .i64 b.sum, .int .i64 b.cur, .int .i64 b.tk, .int .i64 b.tn, .int .i64 b.tu, .int .i64 b.day, .int .i64 b.city, .int .i64 b.pay, .int .i64 b.need, .int .i64 b.rate, .int .i64 b.flags, .int .i64 b.parts] 35)) w22) := (B21.out.alloc (Nat.le_trans ZL B21.out.size) _).grown hgrow22 (by have := Nat.le_trans ZL B21.out.size; simp at this ⊢; omega) hrow
              obtain ⟨Y22, hY22⟩ : ∃ Y : List B, Y = Y21 ++ [mkB (tSigned ++ firmN R b.drawer)] := ⟨_, rfl⟩
              have O22 : Hid (w22.ownsRow (w.heap.size + 2) 9 1 v22 8 (strs Y22)) := by
                show w22.ownsRow _ _ _ _ _ _
                rw [hY22, strs_app, ← HV22.out]
                exact hown22
              have HY22 := Lib.hid hY22
              have HN22 : Hid (Y22.length = 8) := by show _ = _; rw [hY22, List.length_append, HN21.out]; rfl
              obtain ⟨la22, lc22, ev22, lq22⟩ := own_shape O22.out
              subst ev22
              clear hown22 hgrow22 hrow hY22
              have X22 := Lib.hid (X0.out.below B22.out (by omega))
              have RB22 := Lib.hid (RB0.out.low B22.out (by omega))
              have hl : Y22.map (fun x => x.data.toList) = linesW R b p := by
                rw [HY22.out, HY21.out, HY0.out]
                unfold linesW
                rw [if_neg (by have := QA.out; omega), if_pos QB.out, if_pos QC.out]
                simp only [List.map_cons, List.map_nil, mkB_list, List.append_assoc, List.cons_append, List.nil_append, List.append_nil]
              have hb := lines_le HRT.out hp0 hp1
              have HL := Lib.hid hl
              have hlen : (linesW R b p).length = 8 := by rw [← hl, List.length_map, HN22.out]
              have hjn := inter_le [10] 300 _ hb
              rw [hlen] at hjn
              have HJ : Hid ((([10] : L8).intercalate (Y22.map (fun x => x.data.toList))).length ≤ 1000000) := by
                show _ ≤ _
                rw [hl]
                exact Nat.le_trans hjn (by decide)
              clear hl hb hjn hlen
              go_wp2_with fail
              refine (join_n ⟨#[10]⟩ _ O22.out HN22.out lq22 (by omega) HJ.out).mono ?_
              rintro r wf ⟨rfl, bf⟩
              have BF := Lib.hid (low_up B22.out bf ZL)
              clear bf
              obtain ⟨sj, hsj⟩ : ∃ sj : B, sj = mkB (([10] : L8).intercalate (Y22.map (fun x => x.data.toList))) := ⟨_, rfl⟩
              have hz : sj.size ≤ 1000000 := by rw [hsj, mkB_size]; exact HJ.out
              rw [← hsj]
              rw [HL.out] at hsj
              have HSJ := Lib.hid hsj
              clear hsj
              go_wp2
              go_ret
              refine ⟨str_eq ?_, HW.out.trans (BF.out.mono Z0)⟩
              rw [HSJ.out]
              unfold wordW
              rw [← inter_lines _ (by unfold linesW; simp)]
              exact mkB_app _ _
          | false =>
            as_aux_lemma =>
              rw [qc] at hb2
              have QC := Lib.hid qc
              clear qc
              have x0 := Xc.out.at (i := 0) rfl
              have x13 := Xc.out.at (i := 13) rfl
              have k3 := RBc.out.b3
              have mdrawer : wc.cell? ⟨bF, oF + b.drawer.toNat * 3, none⟩ = some (.string nr.nm) := cell_up (HW.out.trans (Bc.out.mono Z0)) (HF.out _ _ Edrawer.out 0 _ rfl)
              have hv21 : (⟨#[115, 105, 103, 110, 101, 100, 32]⟩ ++ nr.nm) = mkB (tSigned ++ firmN R b.drawer) := by rw [← mkB_of nr.nm, ← Vdrawer.out]; exact cat2 (x := tSigned) rfl
              have HV21 := Lib.hid hv21
              clear hv21
              go_wp2_with (at_builtin; refine wpList_append_own _ rfl (.tmp 105) (.tmp 114) 22 rfl (w.heap.size + 2) 9 rj (.string ⟨#[]⟩) 1 16 Tryz.underlying22 Hj.out Hy0.out Hy1.out Hy2.out rfl (by decide) _ 6 (strs Y0) rfl ((Oc.out).alloc _) ⟨(wc).heap.size, 0, none⟩ 1 1 [.string (⟨#[115, 105, 103, 110, 101, 100, 32]⟩ ++ nr.nm)] rfl rfl (cell_new1 _ _ _ _ (by first | rfl | simp)) (fun u hu => by simp at hu; subst hu; rfl) (by unfold maxLen; omega) (by omega) (by have := Bc.out.size; simp at this ⊢; omega) ?_)
              intro v21 w21 hown21 hgrow21 _
              clear x0 x13 k3 mdrawer
              have hrow : ∀ j, (Value.slice lac 6 lcc).ownBlock = some j → w.heap.size + 2 ≤ j := fun j hj => (Oc.out.lt j hj).1
              have B21 : Hid (Below (w.heap.size + 2) ((w.alloc (.cells #[.slice (some ⟨bU, oU, none⟩) R.cur.length c0, .slice (some ⟨bC, oC, none⟩) R.cities.length c1, .slice a2 R.groups.length c2, .slice (some ⟨bF, oF, none⟩) R.firms.length c3, .slice a4 R.orders.length c4, .slice a5 R.usances.length c5, .slice a6 R.rates.length c6, .slice a7 R.halts.length c7] 31)).alloc (.cells #[.int .i64 b.drawer, .int .i64 b.drawee, .int .i64 b.payee, .int .i64 b.sum, .int .i64 b.cur, .int .i64 b.tk, .int .i64 b.tn, .int .i64 b.tu, .int .i64 b.day, .int .i64 b.city, .int .i64 b.pay, .int .i64 b.need, .int .i64 b.rate, .int .i64 b.flags, .int .i64 b.parts] 35)) w21) := (Bc.out.alloc (Nat.le_trans ZL Bc.out.size) _).grown hgrow21 (by have := Nat.le_trans ZL Bc.out.size; simp at this ⊢; omega) hrow
              obtain ⟨Y21, hY21⟩ : ∃ Y : List B, Y = Y0 ++ [mkB (tSigned ++ firmN R b.drawer)] := ⟨_, rfl⟩
              have O21 : Hid (w21.ownsRow (w.heap.size + 2) 9 1 v21 7 (strs Y21)) := by
                show w21.ownsRow _ _ _ _ _ _
                rw [hY21, strs_app, ← HV21.out]
                exact hown21
              have HY21 := Lib.hid hY21
              have HN21 : Hid (Y21.length = 7) := by show _ = _; rw [hY21, List.length_append, HN0.out]; rfl
              obtain ⟨la21, lc21, ev21, lq21⟩ := own_shape O21.out
              subst ev21
              clear hown21 hgrow21 hrow hY21
              have X21 := Lib.hid (X0.out.below B21.out (by omega))
              have RB21 := Lib.hid (RB0.out.low B21.out (by omega))
              have hl : Y21.map (fun x => x.data.toList) = linesW R b p := by
                rw [HY21.out, HY0.out]
                unfold linesW
                rw [if_neg (by have := QA.out; omega), if_pos QB.out, if_neg (by rw [QC.out]; decide)]
                simp only [List.map_cons, List.map_nil, mkB_list, List.append_assoc, List.cons_append, List.nil_append, List.append_nil]
              have hb := lines_le HRT.out hp0 hp1
              have HL := Lib.hid hl
              have hlen : (linesW R b p).length = 7 := by rw [← hl, List.length_map, HN21.out]
              have hjn := inter_le [10] 300 _ hb
              rw [hlen] at hjn
              have HJ : Hid ((([10] : L8).intercalate (Y21.map (fun x => x.data.toList))).length ≤ 1000000) := by
                show _ ≤ _
                rw [hl]
                exact Nat.le_trans hjn (by decide)
              clear hl hb hjn hlen
              go_wp2_with fail
              refine (join_n ⟨#[10]⟩ _ O21.out HN21.out lq21 (by omega) HJ.out).mono ?_
              rintro r wf ⟨rfl, bf⟩
              have BF := Lib.hid (low_up B21.out bf ZL)
              clear bf
              obtain ⟨sj, hsj⟩ : ∃ sj : B, sj = mkB (([10] : L8).intercalate (Y21.map (fun x => x.data.toList))) := ⟨_, rfl⟩
              have hz : sj.size ≤ 1000000 := by rw [hsj, mkB_size]; exact HJ.out
              rw [← hsj]
              rw [HL.out] at hsj
              have HSJ := Lib.hid hsj
              clear hsj
              go_wp2
              go_ret
              refine ⟨str_eq ?_, HW.out.trans (BF.out.mono Z0)⟩
              rw [HSJ.out]
              unfold wordW
              rw [← inter_lines _ (by unfold linesW; simp)]
              exact mkB_app _ _
        · have g : (b.need != -1) = true := bne_iff_ne.2 qb
          have QB := Lib.hid qb
          obtain ⟨nn, eneed⟩ : ∃ x, R.firms[b.need.toNat]? = some x := ⟨_, List.getElem?_eq_getElem (by have := ix_iff.1 (hneed.out.resolve_left qb); omega)⟩
          have Eneed := Lib.hid eneed
          have zneed : nn.nm.size ≤ 20 := firm_sz hrealm.out eneed
          have Vneed : Hid (firmN R b.need = nn.nm.data.toList) := by show firmN R _ = _; unfold firmN; rw [eneed]
          have ineed0 : (0 : Int) ≤ b.need := (ix_iff.1 (hneed.out.resolve_left qb)).1
          have ineed1 : b.need < (R.firms.length : Int) := (ix_iff.1 (hneed.out.resolve_left qb)).2
          clear eneed
          clear qb
          have x11 := Xc.out.at (i := 11) rfl
          have k3 := RBc.out.b3
          have mneed : wc.cell? ⟨bF, oF + b.need.toNat * 3, none⟩ = some (.string nn.nm) := cell_up (HW.out.trans (Bc.out.mono Z0)) (HF.out _ _ Eneed.out 0 _ rfl)
          have hv21 : (⟨#[105, 110, 32, 110, 101, 101, 100, 32, 97, 115, 107, 32]⟩ ++ nn.nm) = mkB (tNeed ++ firmN R b.need) := by rw [← mkB_of nn.nm, ← Vneed.out]; exact cat2 (x := tNeed) rfl
          have HV21 := Lib.hid hv21
          clear hv21
          go_wp2_with (at_builtin; refine wpList_append_own _ rfl (.tmp 87) (.tmp 96) 22 rfl (w.heap.size + 2) 9 rj (.string ⟨#[]⟩) 1 16 Tryz.underlying22 Hj.out Hy0.out Hy1.out Hy2.out rfl (by decide) _ 6 (strs Y0) rfl ((Oc.out).alloc _) ⟨(wc).heap.size, 0, none⟩ 1 1 [.string (⟨#[105, 110, 32, 110, 101, 101, 100, 32, 97, 115, 107, 32]⟩ ++ nn.nm)] rfl rfl (cell_new1 _ _ _ _ (by first | rfl | simp)) (fun u hu => by simp at hu; subst hu; rfl) (by unfold maxLen; omega) (by omega) (by have := Bc.out.size; simp at this ⊢; omega) ?_)
          intro v21 w21 hown21 hgrow21 _
          clear x11 k3 mneed
          have hrow : ∀ j, (Value.slice lac 6 lcc).ownBlock = some j → w.heap.size + 2 ≤ j := fun j hj => (Oc.out.lt j hj).1
          have B21 : Hid (Below (w.heap.size + 2) ((w.alloc (.cells #[.slice (some ⟨bU, oU, none⟩) R.cur.length c0, .slice (some ⟨bC, oC, none⟩) R.cities.length c1, .slice a2 R.groups.length c2, .slice (some ⟨bF, oF, none⟩) R.firms.length c3, .slice a4 R.orders.length c4, .slice a5 R.usances.length c5, .slice a6 R.rates.length c6, .slice a7 R.halts.length c7] 31)).alloc (.cells #[.int .i64 b.drawer, .int .i64 b.drawee, .int .i64 b.payee, .int .i64 b.sum, .int .i64 b.cur, .int .i64 b.tk, .int .i64 b.tn, .int .i64 b.tu, .int .i64 b.day, .int .i64 b.city, .int .i64 b.pay, .int .i64 b.need, .int .i64 b.rate, .int .i64 b.flags, .int .i64 b.parts] 35)) w21) := (Bc.out.alloc (Nat.le_trans ZL Bc.out.size) _).grown hgrow21 (by have := Nat.le_trans ZL Bc.out.size; simp at this ⊢; omega) hrow
          obtain ⟨Y21, hY21⟩ : ∃ Y : List B, Y = Y0 ++ [mkB (tNeed ++ firmN R b.need)] := ⟨_, rfl⟩
          have O21 : Hid (w21.ownsRow (w.heap.size + 2) 9 1 v21 7 (strs Y21)) := by
            show w21.ownsRow _ _ _ _ _ _
            rw [hY21, strs_app, ← HV21.out]
            exact hown21
          have HY21 := Lib.hid hY21
          have HN21 : Hid (Y21.length = 7) := by show _ = _; rw [hY21, List.length_append, HN0.out]; rfl
          obtain ⟨la21, lc21, ev21, lq21⟩ := own_shape O21.out
          subst ev21
          clear hown21 hgrow21 hrow hY21
          have X21 := Lib.hid (X0.out.below B21.out (by omega))
          have RB21 := Lib.hid (RB0.out.low B21.out (by omega))
          cases qc : bit b.flags 2 with
          | true =>
            as_aux_lemma =>
              rw [qc] at hb2
              have QC := Lib.hid qc
              clear qc
              have x13 := X21.out.at (i := 13) rfl
              have hv22 : (⟨#[119, 105, 116, 104, 111, 117, 116, 32, 112, 114, 111, 116, 101, 115, 116]⟩) = mkB (tWithout) := rfl
              have HV22 := Lib.hid hv22
              clear hv22
              go_wp2_with (at_builtin; refine wpList_append_own _ rfl (.tmp 102) (.tmp 103) 22 rfl (w.heap.size + 2) 9 rj (.string ⟨#[]⟩) 1 16 Tryz.underlying22 Hj.out Hy0.out Hy1.out Hy2.out rfl (by decide) _ 7 (strs Y21) rfl ((O21.out).alloc _) ⟨(w21).heap.size, 0, none⟩ 1 1 [.string (⟨#[119, 105, 116, 104, 111, 117, 116, 32, 112, 114, 111, 116, 101, 115, 116]⟩)] rfl rfl ?f1 ?f2 ?f3 ?f4 ?f5 ?_)
              case f1 => exact cell_new1 _ _ _ _ (by first | rfl | simp)
              case f2 => first | rfl | (intro u hu; simp at hu; subst hu; rfl)
              case f3 => unfold maxLen; omega
              case f4 => omega
              case f5 => have := B21.out.size; simp at this ⊢; omega
              intro v22 w22 hown22 hgrow22 _
              clear x13
              have hrow : ∀ j, (Value.slice la21 7 lc21).ownBlock = some j → w.heap.size + 2 ≤ j := fun j hj => (O21.out.lt j hj).1
              have B22 : Hid (Below (w.heap.size + 2) ((w.alloc (.cells #[.slice (some ⟨bU, oU, none⟩) R.cur.length c0, .slice (some ⟨bC, oC, none⟩) R.cities.length c1, .slice a2 R.groups.length c2, .slice (some ⟨bF, oF, none⟩) R.firms.length c3, .slice a4 R.orders.length c4, .slice a5 R.usances.length c5, .slice a6 R.rates.length c6, .slice a7 R.halts.length c7] 31)).alloc (.cells #[.int .i64 b.drawer, .int .i64 b.drawee, .int .i64 b.payee, .int .i64 b.sum, .int .i64 b.cur, .int .i64 b.tk, .int .i64 b.tn, .int .i64 b.tu, .int .i64 b.day, .int .i64 b.city, .int .i64 b.pay, .int .i64 b.need, .int .i64 b.rate, .int .i64 b.flags, .int .i64 b.parts] 35)) w22) := (B21.out.alloc (Nat.le_trans ZL B21.out.size) _).grown hgrow22 (by have := Nat.le_trans ZL B21.out.size; simp at this ⊢; omega) hrow
              obtain ⟨Y22, hY22⟩ : ∃ Y : List B, Y = Y21 ++ [mkB (tWithout)] := ⟨_, rfl⟩
              have O22 : Hid (w22.ownsRow (w.heap.size + 2) 9 1 v22 8 (strs Y22)) := by
                show w22.ownsRow _ _ _ _ _ _
                rw [hY22, strs_app, ← HV22.out]
                exact hown22
              have HY22 := Lib.hid hY22
              have HN22 : Hid (Y22.length = 8) := by show _ = _; rw [hY22, List.length_append, HN21.out]; rfl
              obtain ⟨la22, lc22, ev22, lq22⟩ := own_shape O22.out
              subst ev22
              clear hown22 hgrow22 hrow hY22
              have X22 := Lib.hid (X0.out.below B22.out (by omega))
              have RB22 := Lib.hid (RB0.out.low B22.out (by omega))
              have x0 := X22.out.at (i := 0) rfl
              have k3 := RB22.out.b3
              have mdrawer : w22.cell? ⟨bF, oF + b.drawer.toNat * 3, none⟩ = some (.string nr.nm) := cell_up (HW.out.trans (B22.out.mono Z0)) (HF.out _ _ Edrawer.out 0 _ rfl)
              have hv23 : (⟨#[115, 105, 103, 110, 101, 100, 32]⟩ ++ nr.nm) = mkB (tSigned ++ firmN R b.drawer) := by rw [← mkB_of nr.nm, ← Vdrawer.out]; exact cat2 (x := tSigned) rfl
              have HV23 := Lib.hid hv23
              clear hv23
              go_wp2_with (at_builtin; refine wpList_append_own _ rfl (.tmp 105) (.tmp 114) 22 rfl (w.heap.size + 2) 9 rj (.string ⟨#[]⟩) 1 16 Tryz.underlying22 Hj.out Hy0.out Hy1.out Hy2.out rfl (by decide) _ 8 (strs Y22) rfl ((O22.out).alloc _) ⟨(w22).heap.size, 0, none⟩ 1 1 [.string (⟨#[115, 105, 103, 110, 101, 100, 32]⟩ ++ nr.nm)] rfl rfl ?f1 ?f2 ?f3 ?f4 ?f5 ?_)
              case f1 => exact cell_new1 _ _ _ _ (by first | rfl | simp)
              case f2 => first | rfl | (intro u hu; simp at hu; subst hu; rfl)
              case f3 => unfold maxLen; omega
              case f4 => omega
              case f5 => have := B22.out.size; simp at this ⊢; omega
              intro v23 w23 hown23 hgrow23 _
              clear x0 k3 mdrawer
              have hrow : ∀ j, (Value.slice la22 8 lc22).ownBlock = some j → w.heap.size + 2 ≤ j := fun j hj => (O22.out.lt j hj).1
              have B23 : Hid (Below (w.heap.size + 2) ((w.alloc (.cells #[.slice (some ⟨bU, oU, none⟩) R.cur.length c0, .slice (some ⟨bC, oC, none⟩) R.cities.length c1, .slice a2 R.groups.length c2, .slice (some ⟨bF, oF, none⟩) R.firms.length c3, .slice a4 R.orders.length c4, .slice a5 R.usances.length c5, .slice a6 R.rates.length c6, .slice a7 R.halts.length c7] 31)).alloc (.cells #[.int .i64 b.drawer, .int .i64 b.drawee, .int .i64 b.payee, .int .i64 b.sum, .int .i64 b.cur, .int .i64 b.tk, .int .i64 b.tn, .int .i64 b.tu, .int .i64 b.day, .int .i64 b.city, .int .i64 b.pay, .int .i64 b.need, .int .i64 b.rate, .int .i64 b.flags, .int .i64 b.parts] 35)) w23) := (B22.out.alloc (Nat.le_trans ZL B22.out.size) _).grown hgrow23 (by have := Nat.le_trans ZL B22.out.size; simp at this ⊢; omega) hrow
              obtain ⟨Y23, hY23⟩ : ∃ Y : List B, Y = Y22 ++ [mkB (tSigned ++ firmN R b.drawer)] := ⟨_, rfl⟩
              have O23 : Hid (w23.ownsRow (w.heap.size + 2) 9 1 v23 9 (strs Y23)) := by
                show w23.ownsRow _ _ _ _ _ _
                rw [hY23, strs_app, ← HV23.out]
                exact hown23
              have HY23 := Lib.hid hY23
              have HN23 : Hid (Y23.length = 9) := by show _ = _; rw [hY23, List.length_append, HN22.out]; rfl
              obtain ⟨la23, lc23, ev23, lq23⟩ := own_shape O23.out
              subst ev23
              clear hown23 hgrow23 hrow hY23
              have X23 := Lib.hid (X0.out.below B23.out (by omega))
              have RB23 := Lib.hid (RB0.out.low B23.out (by omega))
              have hl : Y23.map (fun x => x.data.toList) = linesW R b p := by
                rw [HY23.out, HY22.out, HY21.out, HY0.out]
                unfold linesW
                rw [if_neg (by have := QA.out; omega), if_neg QB.out, if_pos QC.out]
                simp only [List.map_cons, List.map_nil, mkB_list, List.append_assoc, List.cons_append, List.nil_append, List.append_nil]
              have hb := lines_le HRT.out hp0 hp1
              have HL := Lib.hid hl
              have hlen : (linesW R b p).length = 9 := by rw [← hl, List.length_map, HN23.out]
              have hjn := inter_le [10] 300 _ hb
              rw [hlen] at hjn
              have HJ : Hid ((([10] : L8).intercalate (Y23.map (fun x => x.data.toList))).length ≤ 1000000) := by
                show _ ≤ _
                rw [hl]
                exact Nat.le_trans hjn (by decide)
              clear hl hb hjn hlen
              go_wp2_with fail
              refine (join_n ⟨#[10]⟩ _ O23.out HN23.out lq23 (by omega) HJ.out).mono ?_
              rintro r wf ⟨rfl, bf⟩
              have BF := Lib.hid (low_up B23.out bf ZL)
              clear bf
              obtain ⟨sj, hsj⟩ : ∃ sj : B, sj = mkB (([10] : L8).intercalate (Y23.map (fun x => x.data.toList))) := ⟨_, rfl⟩
              have hz : sj.size ≤ 1000000 := by rw [hsj, mkB_size]; exact HJ.out
              rw [← hsj]
              rw [HL.out] at hsj
              have HSJ := Lib.hid hsj
              clear hsj
              go_wp2
              go_ret
              refine ⟨str_eq ?_, HW.out.trans (BF.out.mono Z0)⟩
              rw [HSJ.out]
              unfold wordW
              rw [← inter_lines _ (by unfold linesW; simp)]
              exact mkB_app _ _
          | false =>
            as_aux_lemma =>
              rw [qc] at hb2
              have QC := Lib.hid qc
              clear qc
              have x0 := X21.out.at (i := 0) rfl
              have x13 := X21.out.at (i := 13) rfl
              have k3 := RB21.out.b3
              have mdrawer : w21.cell? ⟨bF, oF + b.drawer.toNat * 3, none⟩ = some (.string nr.nm) := cell_up (HW.out.trans (B21.out.mono Z0)) (HF.out _ _ Edrawer.out 0 _ rfl)
              have hv22 : (⟨#[115, 105, 103, 110, 101, 100, 32]⟩ ++ nr.nm) = mkB (tSigned ++ firmN R b.drawer) := by rw [← mkB_of nr.nm, ← Vdrawer.out]; exact cat2 (x := tSigned) rfl
              have HV22 := Lib.hid hv22
              clear hv22
              go_wp2_with (at_builtin; refine wpList_append_own _ rfl (.tmp 105) (.tmp 114) 22 rfl (w.heap.size + 2) 9 rj (.string ⟨#[]⟩) 1 16 Tryz.underlying22 Hj.out Hy0.out Hy1.out Hy2.out rfl (by decide) _ 7 (strs Y21) rfl ((O21.out).alloc _) ⟨(w21).heap.size, 0, none⟩ 1 1 [.string (⟨#[115, 105, 103, 110, 101, 100, 32]⟩ ++ nr.nm)] rfl rfl ?f1 ?f2 ?f3 ?f4 ?f5 ?_)
              case f1 => exact cell_new1 _ _ _ _ (by first | rfl | simp)
              case f2 => first | rfl | (intro u hu; simp at hu; subst hu; rfl)
              case f3 => unfold maxLen; omega
              case f4 => omega
              case f5 => have := B21.out.size; simp at this ⊢; omega
              intro v22 w22 hown22 hgrow22 _
              clear x0 x13 k3 mdrawer
              have hrow : ∀ j, (Value.slice la21 7 lc21).ownBlock = some j → w.heap.size + 2 ≤ j := fun j hj => (O21.out.lt j hj).1
              have B22 : Hid (Below (w.heap.size + 2) ((w.alloc (.cells #[.slice (some ⟨bU, oU, none⟩) R.cur.length c0, .slice (some ⟨bC, oC, none⟩) R.cities.length c1, .slice a2 R.groups.length c2, .slice (some ⟨bF, oF, none⟩) R.firms.length c3, .slice a4 R.orders.length c4, .slice a5 R.usances.length c5, .slice a6 R.rates.length c6, .slice a7 R.halts.length c7] 31)).alloc (.cells #[.int .i64 b.drawer, .int .i64 b.drawee, .int .i64 b.payee, .int .i64 b.sum, .int .i64 b.cur, .int .i64 b.tk, .int .i64 b.tn, .int .i64 b.tu, .int .i64 b.day, .int .i64 b.city, .int .i64 b.pay, .int .i64 b.need, .int .i64 b.rate, .int .i64 b.flags, .int .i64 b.parts] 35)) w22) := (B21.out.alloc (Nat.le_trans ZL B21.out.size) _).grown hgrow22 (by have := Nat.le_trans ZL B21.out.size; simp at this ⊢; omega) hrow
              obtain ⟨Y22, hY22⟩ : ∃ Y : List B, Y = Y21 ++ [mkB (tSigned ++ firmN R b.drawer)] := ⟨_, rfl⟩
              have O22 : Hid (w22.ownsRow (w.heap.size + 2) 9 1 v22 8 (strs Y22)) := by
                show w22.ownsRow _ _ _ _ _ _
                rw [hY22, strs_app, ← HV22.out]
                exact hown22
              have HY22 := Lib.hid hY22
              have HN22 : Hid (Y22.length = 8) := by show _ = _; rw [hY22, List.length_append, HN21.out]; rfl
              obtain ⟨la22, lc22, ev22, lq22⟩ := own_shape O22.out
              subst ev22
              clear hown22 hgrow22 hrow hY22
              have X22 := Lib.hid (X0.out.below B22.out (by omega))
              have RB22 := Lib.hid (RB0.out.low B22.out (by omega))
              have hl : Y22.map (fun x => x.data.toList) = linesW R b p := by
                rw [HY22.out, HY21.out, HY0.out]
                unfold linesW
                rw [if_neg (by have := QA.out; omega), if_neg QB.out, if_neg (by rw [QC.out]; decide)]
                simp only [List.map_cons, List.map_nil, mkB_list, List.append_assoc, List.cons_append, List.nil_append, List.append_nil]
              have hb := lines_le HRT.out hp0 hp1
              have HL := Lib.hid hl
              have hlen : (linesW R b p).length = 8 := by rw [← hl, List.length_map, HN22.out]
              have hjn := inter_le [10] 300 _ hb
              rw [hlen] at hjn
              have HJ : Hid ((([10] : L8).intercalate (Y22.map (fun x => x.data.toList))).length ≤ 1000000) := by
                show _ ≤ _
                rw [hl]
                exact Nat.le_trans hjn (by decide)
              clear hl hb hjn hlen
              go_wp2_with fail
              refine (join_n ⟨#[10]⟩ _ O22.out HN22.out lq22 (by omega) HJ.out).mono ?_
              rintro r wf ⟨rfl, bf⟩
              have BF := Lib.hid (low_up B22.out bf ZL)
              clear bf
              obtain ⟨sj, hsj⟩ : ∃ sj : B, sj = mkB (([10] : L8).intercalate (Y22.map (fun x => x.data.toList))) := ⟨_, rfl⟩
              have hz : sj.size ≤ 1000000 := by rw [hsj, mkB_size]; exact HJ.out
              rw [← hsj]
              rw [HL.out] at hsj
              have HSJ := Lib.hid hsj
              clear hsj
              go_wp2
              go_ret
              refine ⟨str_eq ?_, HW.out.trans (BF.out.mono Z0)⟩
              rw [HSJ.out]
              unfold wordW
              rw [← inter_lines _ (by unfold linesW; simp)]
              exact mkB_app _ _
end Go.Proofs.YtcjakgpmompaiaaGreatDoor
