/-
  What the laws of layer 6 ask of the program (GraphOk); literals in memory; few, middle, closed.
-/
import Derived.Test.YtndcbhgdlaemaaaRefG
namespace Go.Proofs.Ytndcbhgdlaemaaa
open Go.RowKit Gr

def okE2 (e : E) : Prop := ∀ p ∈ e, I64 p.1 ∧ I64 p.2
/-- THE PROGRAM's CONTRACTS. -/
structure GraphOk : Prop where
  reach : ∀ (v : Value) (n : Int) (e : E) (a : Int) (w : World), EAt w v e → e.length ≤ 1099511627776 → okE2 e → I64 n → I64 a →
    Calls Try.prog 15 #[.int .i64 n, v, .int .i64 a] w fun r w' => ∃ x, r = .returned x ∧ SAt w' x (bools (reach n e a)) ∧ Below w.heap.size w w'
  order : ∀ (v : Value) (n : Int) (e : E) (w : World), EAt w v e → e.length ≤ 1099511627776 → okE2 e → I64 n →
    Calls Try.prog 11 #[.int .i64 n, v] w fun r w' => ∃ x, r = .returned (.tuple #[x, .bool (ordB n e)]) ∧ SAt w' x (ints (ordL n e)) ∧ Below w.heap.size w w'
  cycle : ∀ (v : Value) (n : Int) (e : E) (w : World), EAt w v e → e.length ≤ 1099511627776 → okE2 e → I64 n →
    Calls Try.prog 17 #[.int .i64 n, v] w fun r w' => ∃ x, r = .returned x ∧ SAt w' x (ints (cycle n e)) ∧ Below w.heap.size w w'
  groups : ∀ (v : Value) (n : Int) (e : E) (w : World), EAt w v e → e.length ≤ 1099511627776 → okE2 e → I64 n →
    Calls Try.prog 20 #[.int .i64 n, v] w fun r w' => ∃ x, r = .returned x ∧ LAt w' x (groups n e) ∧ Below w.heap.size w w'

theorem small_I64 {n : Int} (h1 : -2199023255552 ≤ n) (h2 : n ≤ 2199023255552) : I64 n := by unfold I64; omega
/-- the cells of a list of edges -/
def edgesC : E → List Value
  | [] => []
  | p :: t => .int .i64 p.1 :: .int .i64 p.2 :: edgesC t
theorem edgesC_len : ∀ e : E, (edgesC e).length = e.length * 2
  | [] => rfl
  | _ :: t => by simp only [edgesC, List.length_cons, edgesC_len t]; omega
theorem edgesC_app : ∀ e f : E, edgesC (e ++ f) = edgesC e ++ edgesC f
  | [], _ => rfl
  | p :: t, f => by simp only [List.cons_append, edgesC, edgesC_app t f]
theorem edgesC_one (e : E) : ∀ u ∈ edgesC e, u.oneCell' = true := by
  induction e with
  | nil => intro u hu; simp [edgesC] at hu
  | cons p t ih =>
    intro u hu
    simp only [edgesC, List.mem_cons] at hu
    rcases hu with rfl | rfl | hu
    · rfl
    · rfl
    · exact ih u hu
theorem edgesC_get : ∀ {e : E} {j : Nat} {p : Int × Int}, e[j]? = some p → (edgesC e)[j * 2]? = some (.int .i64 p.1) ∧ (edgesC e)[j * 2 + 1]? = some (.int .i64 p.2)
  | [], j, p, h => by simp at h
  | q :: t, 0, p, h => by
    simp at h
    subst h
    exact ⟨rfl, rfl⟩
  | q :: t, j + 1, p, h => by
    obtain ⟨h1, h2⟩ := edgesC_get (e := t) (j := j) (p := p) (by simpa using h)
    rw [show (j + 1) * 2 = j * 2 + 1 + 1 by omega]
    exact ⟨h1, h2⟩
theorem cell_new {w : World} {cs : Array Value} {T : TypeId} {o : Nat} {u : Value} (h : cs.toList[o]? = some u) : (w.alloc (.cells cs T)).cell? ⟨w.heap.size, o, none⟩ = some u := by
  rw [World.cell?_alloc_new]
  simpa using h
theorem EAt.lit (w : World) (cs : Array Value) (T : TypeId) (e : E) (n m : Nat) (hn : n = w.heap.size) (hm : m = e.length) (h : cs.toList = edgesC e) : EAt (w.alloc (.cells cs T)) (.slice (some ⟨n, 0, none⟩) m m) e := by
  subst hn hm
  refine ⟨_, e.length, rfl, Nat.le_refl _, fun j p hp => ⟨w.heap.size, 0, rfl, by simp, ?_, ?_⟩⟩
  · rw [Nat.zero_add]; exact cell_new (by rw [h]; exact (edgesC_get hp).1)
  · rw [Nat.zero_add]; exact cell_new (by rw [h]; exact (edgesC_get hp).2)
theorem SAt.lit (w : World) (cs : Array Value) (T : TypeId) (l : List Value) (n m : Nat) (hn : n = w.heap.size) (hm : m = l.length) (h : cs.toList = l) : SAt (w.alloc (.cells cs T)) (.slice (some ⟨n, 0, none⟩) m m) l := by
  subst hn hm
  exact ⟨_, l.length, rfl, Nat.le_refl _, fun j x hx => ⟨w.heap.size, 0, rfl, by simp, by rw [Nat.zero_add]; exact cell_new (by rw [h]; exact hx)⟩⟩
/-- what the call owns reads as edges -/
theorem EAt.own {w : World} {base n : Nat} {T : TypeId} {v : Value} {xs : List Value} {e : E} (h : w.ownsRow base T 2 v n xs) (he : xs = edgesC e) (hn : n = e.length) : EAt w v e := by
  subst he hn
  rcases h.2 with ⟨rfl, h0⟩ | ⟨g, cap, cur, rfl, hg, hh, h1, h2, h3, h4⟩
  · refine ⟨none, 0, by rw [h0], by omega, fun j r hj => ?_⟩
    have := (List.getElem?_eq_some_iff.1 hj).1
    omega
  · have hlt : g < w.heap.size := (Array.getElem?_eq_some_iff.1 hh).1
    refine ⟨some ⟨g, 0, none⟩, cap, rfl, h1, fun j p hj => ⟨g, 0, rfl, hlt, ?_, ?_⟩⟩
    · have h5 := h.cells rfl (j * 2) _ (edgesC_get hj).1
      rw [add_plain] at h5
      exact h5
    · have h5 := h.cells rfl (j * 2 + 1) _ (edgesC_get hj).2
      rw [add_plain] at h5
      exact h5
/-- the cells of edges that lie in memory -/
theorem EAt.flat {w : World} {ad : Addr} {n cap : Nat} {e : E} (h : EAt w (.slice (some ad) n cap) e) : ∀ i u, (edgesC e)[i]? = some u → ad.block < w.heap.size ∧ ad.spot = none ∧ w.cell? ⟨ad.block, ad.off + i, none⟩ = some u := by
  have key : ∀ (e : E) (i : Nat) (u : Value), (edgesC e)[i]? = some u → ∃ (j : Nat) (p : Int × Int), e[j]? = some p ∧ ((i = j * 2 ∧ u = .int .i64 p.1) ∨ (i = j * 2 + 1 ∧ u = .int .i64 p.2)) := by
    intro e
    induction e with
    | nil => intro i u hu; simp [edgesC] at hu
    | cons p t ih =>
      intro i u hu
      match i with
      | 0 => exact ⟨0, p, rfl, .inl ⟨rfl, by simpa [edgesC] using hu.symm⟩⟩
      | 1 => exact ⟨0, p, rfl, .inr ⟨rfl, by simpa [edgesC] using hu.symm⟩⟩
      | i + 2 =>
        obtain ⟨j, q, h1, h2⟩ := ih i u (by simpa [edgesC] using hu)
        refine ⟨j + 1, q, by simpa using h1, ?_⟩
        rcases h2 with ⟨h2, h3⟩ | ⟨h2, h3⟩
        · exact .inl ⟨by omega, h3⟩
        · exact .inr ⟨by omega, h3⟩
  obtain ⟨a, cap', e', hcap, hc⟩ := h
  injection e' with e1 e2 e3
  intro i u hu
  obtain ⟨j, p, hp, hw⟩ := key e i u hu
  obtain ⟨b, off, e4, hb, h0, h1⟩ := hc j p hp
  rw [← e1] at e4
  injection e4 with e4
  subst e4
  refine ⟨hb, rfl, ?_⟩
  rcases hw with ⟨rfl, rfl⟩ | ⟨rfl, rfl⟩
  · exact h0
  · exact h1

def fewB (n : Int) (e : E) : Bool := decide ((n ≤ 7 ∨ 300 < n) ∧ e.length ≤ 24)
theorem few_x (v : Value) (n : Int) (e : E) (w : World) (hat : EAt w v e) :
    Calls Try.prog 10 #[.int .i64 n, v] w fun r w' => r = .returned (.bool (fewB n e)) ∧ w = w' := by
  obtain ⟨a, cap, rfl, -, -⟩ := hat
  by_cases h1 : n ≤ 7
  · by_cases h2 : e.length ≤ 24
    · have hv : Hid (fewB n e = true) := decide_eq_true ⟨.inl h1, h2⟩
      have f2 : (e.length : Int) ≤ 24 := by omega
      go_enter Try.func10, Try.ntmps10
      go_wp2_with fail
      go_ret
      exact ⟨by rw [hv.out]; try rfl, rfl⟩
    · have hv : Hid (fewB n e = false) := decide_eq_false (fun h => h2 h.2)
      have f2 : ¬ (e.length : Int) ≤ 24 := by omega
      go_enter Try.func10, Try.ntmps10
      go_wp2_with fail
      go_ret
      exact ⟨by rw [hv.out]; try rfl, rfl⟩
  · by_cases h3 : 300 < n
    · by_cases h2 : e.length ≤ 24
      · have hv : Hid (fewB n e = true) := decide_eq_true ⟨.inr h3, h2⟩
        have f2 : (e.length : Int) ≤ 24 := by omega
        go_enter Try.func10, Try.ntmps10
        go_wp2_with fail
        go_ret
        exact ⟨by rw [hv.out]; try rfl, rfl⟩
      · have hv : Hid (fewB n e = false) := decide_eq_false (fun h => h2 h.2)
        have f2 : ¬ (e.length : Int) ≤ 24 := by omega
        go_enter Try.func10, Try.ntmps10
        go_wp2_with fail
        go_ret
        exact ⟨by rw [hv.out]; try rfl, rfl⟩
    · have hv : Hid (fewB n e = false) := decide_eq_false (fun h => h.1.elim h1 h3)
      go_enter Try.func10, Try.ntmps10
      go_wp2_with fail
      go_ret
      exact ⟨by rw [hv.out]; try rfl, rfl⟩

def midB (n : Int) (e : E) : Bool := decide (n ≤ 40 ∧ e.length ≤ 200 ∧ rightB n e = true)
theorem mid_iff {n : Int} {e : E} : midB n e = true ↔ n ≤ 40 ∧ e.length ≤ 200 ∧ rightB n e = true := by unfold midB; exact decide_eq_true_iff
theorem middle_x (v : Value) (n : Int) (e : E) (w : World) (hat : EAt w v e) :
    Calls Try.prog 22 #[.int .i64 n, v] w fun r w' => r = .returned (.bool (midB n e)) ∧ w = w' := by
  have HR := Lib.hid (fun hl => Right_x v n e w hat hl)
  obtain ⟨a, cap, rfl, -, -⟩ := hat
  by_cases h1 : n ≤ 40
  case neg =>
    have hv : Hid (midB n e = false) := decide_eq_false (fun h => h1 h.1)
    go_enter Try.func22, Try.ntmps22
    go_wp2_with fail
    go_ret
    exact ⟨by rw [hv.out]; try rfl, rfl⟩
  by_cases h2 : e.length ≤ 200
  case neg =>
    have hv : Hid (midB n e = false) := decide_eq_false (fun h => h2 h.2.1)
    have f2 : ¬ (e.length : Int) ≤ 200 := by omega
    go_enter Try.func22, Try.ntmps22
    go_wp2_with fail
    go_ret
    exact ⟨by rw [hv.out]; try rfl, rfl⟩
  have f2 : (e.length : Int) ≤ 200 := by omega
  obtain ⟨rb, hrb⟩ : ∃ rb, rightB n e = rb := ⟨_, rfl⟩
  have RB := Lib.hid hrb
  have hv : Hid (midB n e = rb) := by
    show _ = _
    unfold midB
    cases rb with
    | true => exact decide_eq_true ⟨h1, h2, hrb⟩
    | false => exact decide_eq_false (fun h => by rw [hrb] at h; exact Bool.false_ne_true h.2.2)
  clear hrb
  go_enter Try.func22, Try.ntmps22
  go_wp2_with fail
  refine (HR.out (by omega)).mono ?_
  rintro r w1 ⟨rfl, rfl⟩
  rw [RB.out]
  go_wp2_with fail
  go_ret
  exact ⟨by rw [hv.out]; try rfl, rfl⟩

/-- is the set closed under the edges? -/
def closedB (e : E) (l : List Bool) : Bool := e.all (fun p => !((l[p.1.toNat]?).getD false) || (l[p.2.toNat]?).getD false)
theorem closed_iff2 {e : E} {l : List Bool} : closedB e l = true ↔ ∀ p ∈ e, Has l p.1.toNat → Has l p.2.toNat := by
  unfold closedB
  rw [List.all_eq_true]
  refine forall_congr' fun p => imp_congr_right fun _ => ?_
  rw [Bool.or_eq_true, Bool.not_eq_true', ← has_iff, ← has_iff]
  cases (l[p.1.toNat]?).getD false <;> simp
def ClsRel (e : E) (l : List Bool) (w : World) (i : Value) (wr : World) : Prop := ∃ k : Nat, k ≤ e.length ∧ i = .int .i64 (k : Int) ∧ closedB (e.take k) l = true ∧ w = wr
theorem cls_next {e : E} {l : List Bool} {k : Nat} {p : Int × Int} (h : e[k]? = some p) : closedB (e.take (k + 1)) l = (closedB (e.take k) l && (!((l[p.1.toNat]?).getD false) || (l[p.2.toNat]?).getD false)) := by
  unfold closedB
  rw [List.take_add_one, h, List.all_append]
  simp
theorem cls_less {e : E} {l : List Bool} (k : Nat) (h : closedB (e.take k) l = false) : closedB e l = false := by
  rw [← Bool.not_eq_true] at *
  rw [closed_iff2] at *
  exact fun h2 => h fun p hp => h2 p (List.mem_of_mem_take hp)

set_option maxHeartbeats 3200000 in
theorem closed_x (v x : Value) (n : Int) (e : E) (l : List Bool) (w : World) (hat : EAt w v e) (hx : SAt w x (bools l)) (hr : rightB n e = true) (hl : l.length = n.toNat) :
    Calls Try.prog 23 #[v, x] w fun r w' => r = .returned (.bool (closedB e l)) ∧ w = w' := by
  obtain ⟨⟨n0, n300⟩, e2000, hedge⟩ := right_iff.1 hr
  obtain ⟨N, rfl⟩ := Int.eq_ofNat_of_zero_le n0
  rw [Int.toNat_natCast] at hl
  obtain ⟨ad, cap, rfl, -, hc⟩ := hat
  obtain ⟨xa, xc, rfl, xcap, HX⟩ := own_bools hx hl
  have HC := Lib.hid hc
  have HE := Lib.hid hedge
  have HL := Lib.hid hl
  clear hc hedge hl hx hr
  go_enter Try.func23, Try.ntmps23
  go_wp2_with fail
  go_loopw [5] (fun i wr => ClsRel e l w i wr) (fun i _ => e.length - (intOf i).toNat)
  case atStart => exact ⟨0, Nat.zero_le _, rfl, by simp [closedB], rfl⟩
  case round =>
    obtain ⟨k, hk, rfl, hall, rfl⟩ := hrel
    have Ha := Lib.hid hall
    clear hall
    have k0 : (0 : Int) ≤ (k : Int) := by omega
    by_cases c : k < e.length
    case neg =>
      have c0 : ¬ (k : Int) < (e.length : Int) := by omega
      have hv : Hid (closedB e l = true) := by
        have h := Ha.out
        rw [List.take_of_length_le (by omega)] at h
        exact h
      go_wp2_with fail
      go_ret
      exact ⟨by rw [hv.out]; try rfl, rfl⟩
    case pos =>
      have c0 : (k : Int) < (e.length : Int) := by omega
      obtain ⟨p, hp⟩ : ∃ p, e[k]? = some p := ⟨e[k], List.getElem?_eq_getElem c⟩
      obtain ⟨b, off, rfl, hb, p0, p1⟩ := HC.out k p hp
      have hpe := HE.out p (List.mem_of_getElem? hp)
      obtain ⟨px, py⟩ := p
      have Hn : Hid (closedB (e.take (k + 1)) l = (!((l[px.toNat]?).getD false) || (l[py.toNat]?).getD false)) := by show _ = _; rw [cls_next hp, Ha.out, Bool.true_and]
      simp only at hpe p0 p1
      obtain ⟨x, rfl⟩ := Int.eq_ofNat_of_zero_le hpe.1.1
      obtain ⟨y, rfl⟩ := Int.eq_ofNat_of_zero_le hpe.2.1
      have x0 : (0 : Int) ≤ (x : Int) := by omega
      have y0 : (0 : Int) ≤ (y : Int) := by omega
      have xn : (x : Int) < (N : Int) := hpe.1.2
      have yn : (y : Int) < (N : Int) := hpe.2.2
      obtain ⟨u, hu⟩ : ∃ u, l[x]? = some u := ⟨_, List.getElem?_eq_getElem (by rw [HL.out]; omega)⟩
      obtain ⟨t, ht⟩ : ∃ t, l[y]? = some t := ⟨_, List.getElem?_eq_getElem (by rw [HL.out]; omega)⟩
      obtain ⟨g, o1, rfl, hg, q1⟩ := HX.out x u hu
      obtain ⟨g2, o2, e2, -, q2⟩ := HX.out y t ht
      simp only [Option.some.injEq, Addr.mk.injEq, and_true] at e2
      obtain ⟨rfl, rfl⟩ := e2
      rw [Int.toNat_natCast, Int.toNat_natCast, hu, ht] at Hn
      simp only [Option.getD_some] at Hn
      clear hp hu ht hpe
      cases u with
      | false =>
        clear q2
        go_wp2_with fail
        go_roundw
        case rel => exact ⟨k + 1, by omega, by congr 1, by rw [Hn.out]; rfl, rfl⟩
        case measure => simp [intOf]; omega
      | true =>
        cases t with
        | true =>
          go_wp2_with fail
          go_roundw
          case rel => exact ⟨k + 1, by omega, by congr 1, by rw [Hn.out]; rfl, rfl⟩
          case measure => simp [intOf]; omega
        | false =>
          have hv : Hid (closedB e l = false) := cls_less (k + 1) (by rw [Hn.out]; rfl)
          go_wp2_with fail
          go_ret
          exact ⟨by rw [hv.out]; try rfl, rfl⟩

end Go.Proofs.Ytndcbhgdlaemaaa
